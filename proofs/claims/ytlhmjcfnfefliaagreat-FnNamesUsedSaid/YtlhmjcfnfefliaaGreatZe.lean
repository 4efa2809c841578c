/- The law of names that are used: what is carried. No conditions. -/
import Derived.Test.YtlhmjcfnfefliaaGreatZd
import Derived.Deep.CutRange
import Derived.Deep.DeepCutAuto
import Derived.Deep.LoopGhost
namespace Go.Proofs.YtlhmjcfnfefliaaGreat.T1
open Go.RowKit
set_option maxRecDepth 100000
set_option linter.unusedVariables false
set_option linter.unusedSimpArgs false
set_option maxHeartbeats 20000000 in
theorem zsA (a0 : Option Addr) (n0 c0 : Nat) (a1 : Option Addr) (n1 c1 : Nat) (w wc0 : World) (A0 : Hid (Arg w a0 n0)) (A1 : Hid (Arg w a1 n1)) (B0 : Hid (Below w.heap.size w wc0)) (s : ByteArray) (LL : Int) (q : Bool) (T C : ByteArray) (hCs : C.size ≤ 26) (hq : q = true → ∃ m : Nat, LL = (m : Int) ∧ m ≤ 1000 ∧ T.size = 2 * m + 1 ∧ (m = 0 → C = ⟨#[]⟩) ∧ ∀ i (h : i < C.size), (C[i]).toNat < 128 ∧ ∃ n : Nat, m = n + 1 ∧ LevZ #[.string s, .string (C.extract i (i + 1))] (n : Int) true) (s2 s3 s4 s6 s9 s10 s12 s13 s14 s16 s17 s18 s19 s20 s21 s22 s23 s24 s25 s26 s27 s28 s29 s30 s31 s32 s33 s34 s35 s36 s37 s38 s39 s40 s41 s42 s43 s44 s45 s46 s47 s48 s49 s50 s51 s52 s53 s54 s55 s56 s57 s58 s59 s60 s61 s62 s63 s64 s65 s66 s67 s68 s69 s70 s71 s72 s73 s74 s75 s76 s77 s78 s79 s80 s81 s82 s83 s84 s85 s86 s87 s88 s89 s90 s91 s92 s93 s94 s95 s96 s97 s98 s99 s100 s101 s102 s103 s104 s105 s106 s107 s108 s109 s110 s111 s112 s113 s114 s115 s116 s117 s118 s119 s120 s121 s122 s123 s124 s125 s126 s127 s128 s129 s130 s131 s132 s133 s134 s135 s136 s137 s138 s139 s140 s141 s142 s143 s144 s145 s146 s147 s148 s149 s150 s151 s152 s153 s154 s155 s156 s157 s158 s159 s160 s161 s162 s163 s164 s165 s166 s167 s168 s169 s170 s171 s172 s173 s174 s175 s176 s177 s178 s179 s180 s181 s182 s183 s184 s185 s186 s187 s188 s189 s190 s191 s192 s193 s194 s195 s196 s197 s198 s199 s200 s201 s202 s203 s204 s205 s206 s207 s208 s209 s210 s211 s212 s213 s214 s215 s216 s217 s218 s219 s220 s221 s222 s223 s224 s225 s226 s227 s228 s229 s230 s231 s232 s233 s234 s235 s236 s237 s238 s239 s240 s241 s242 s243 s244 s245 s246 s247 s248 s249 s250 s251 s252 s253 s254 s255 s256 s257 s258 s259 s260 s261 s262 s263 s264 s265 s266 s267 s268 s269 s270 s271 s272 s273 s274 s275 s276 s277 s278 s279 s280 s281 s282 s283 s284 s285 s286 s287 s288 s289 s290 s291 s292 s293 s294 s295 s296 s297 s298 s299 s300 s301 : Value) :
    Code.wp Tryz.prog (drpZ 10 bodyZ) (bodyPost Tryz.prog Tryz.f3 (PostZ w)) ⟨#[.slice a0 n0 c0, .slice a1 n1 c1, s2, s3, s4, .string s, s6, .int .i64 LL, .bool q, s9, s10, .string T, s12, s13, s14, .string C, s16, s17, s18, s19, s20, s21, s22, s23, s24, s25, s26, s27, s28, s29, s30, s31, s32, s33, s34, s35, s36, s37, s38, s39, s40, s41, s42, s43, s44, s45, s46, s47, s48, s49, s50, s51, s52, s53, s54, s55, s56, s57, s58, s59, s60, s61, s62, s63, s64, s65, s66, s67, s68, s69, s70, s71, s72, s73, s74, s75, s76, s77, s78, s79, s80, s81, s82, s83, s84, s85, s86, s87, s88, s89, s90, s91, s92, s93, s94, s95, s96, s97, s98, s99, s100, s101, s102, s103, s104, s105, s106, s107, s108, s109, s110, s111, s112, s113, s114, s115, s116, s117, s118, s119, s120, s121, s122, s123, s124, s125, s126, s127, s128, s129, s130, s131, s132, s133, s134, s135, s136, s137, s138, s139, s140, s141, s142, s143, s144, s145, s146, s147, s148, s149, s150, s151, s152, s153, s154, s155, s156, s157, s158, s159, s160, s161, s162, s163, s164, s165, s166, s167, s168, s169, s170, s171, s172, s173, s174, s175, s176, s177, s178, s179, s180, s181, s182, s183, s184, s185, s186, s187, s188, s189, s190, s191, s192, s193, s194, s195, s196, s197, s198, s199, s200, s201, s202, s203, s204, s205, s206, s207, s208, s209, s210, s211, s212, s213, s214, s215, s216, s217, s218, s219, s220, s221, s222, s223, s224, s225, s226, s227, s228, s229, s230, s231, s232, s233, s234, s235, s236, s237, s238, s239, s240, s241, s242, s243, s244, s245, s246, s247, s248, s249, s250, s251, s252, s253, s254, s255, s256, s257, s258, s259, s260, s261, s262, s263, s264, s265, s266, s267, s268, s269, s270, s271, s272, s273, s274, s275, s276, s277, s278, s279, s280, s281, s282, s283, s284, s285, s286, s287, s288, s289, s290, s291, s292, s293, s294, s295, s296, s297, s298, s299, s300, s301], []⟩ wc0 := by
  unfold PostZ
  conv => arg 2; whnf
  dsimp only
  cases q with
  | false =>
    clear hq
    go_upto_if 126 with fail
    go_cut [4, 19, 20, 21] from 127 to 163 (fun _ _ _ _ wx => Hid (Below w.heap.size w wx))
    case first =>
      go_wp2_with fail
      go_meet
      case rel => exact B0
    case rest =>
      rename_i KK aK
      refine aK _ _ ?_
      exact zsE a0 n0 c0 a1 n1 c1 w _ A0 A1 hcut _ _ _ _ _ _ _ _ _ _ _ _ _ _ _ _ _ _ _ _ _ _ _ _ _ _ _ _ _ _ _ _ _ _ _ _ _ _ _ _ _ _ _ _ _ _ _ _ _ _ _ _ _ _ _ _ _ _ _ _ _ _ _ _ _ _ _ _ _ _ _ _ _ _ _ _ _ _ _ _ _ _ _ _ _ _ _ _ _ _ _ _ _ _ _ _ _ _ _ _ _ _ _ _ _ _ _ _ _ _ _ _ _ _ _ _ _ _ _ _ _ _ _ _ _ _ _ _ _ _ _ _ _ _ _ _ _ _ _ _ _ _ _ _ _ _ _ _ _ _ _ _ _ _ _ _ _ _ _ _ _ _ _ _ _ _ _ _ _ _ _ _ _ _ _ _ _ _ _ _ _ _ _ _ _ _ _ _ _ _ _ _ _ _ _ _ _ _ _ _ _ _ _ _ _ _ _ _ _ _ _ _ _ _ _ _ _ _ _ _ _ _ _ _ _ _ _ _ _ _ _ _ _ _ _ _ _ _ _ _ _ _ _ _ _ _ _ _ _ _ _ _ _ _ _ _ _ _ _ _ _ _ _ _ _ _ _ _ _ _ _ _ _ _ _ _ _ _ _ _ _ _ _ _ _ _ _ _ _ _ _ _ _ _ _ _ _ _ _ _
  | true =>
    obtain ⟨m, rfl, hm, hT, h0, hC⟩ := hq rfl
    have HC := Lib.hid hC
    have hw3 : IntKind.i64.wrap (2 * (m : Int)) = 2 * (m : Int) := by rw [IntKind.wrap_i64] <;> omega
    have hw4 : IntKind.i64.wrap (2 * (m : Int) + 1) = ((T.size : Nat) : Int) := by rw [hT]; rw [IntKind.wrap_i64] <;> omega
    clear hq hC
    go_upto_if 126 with fail
    go_cut [4, 19, 20, 21] from 127 to 163 (fun _ _ _ _ wx => Hid (Below w.heap.size w wx))
    case first =>
      by_cases hm0 : m = 0
      · have hCe := h0 hm0
        subst hm0
        subst hCe
        clear h0
        go_wp2_with fail
        go_loopg [19] (⟨#[]⟩ : ByteArray).size (fun g _ wr => ∃ pos : Nat, pos + g = (⟨#[]⟩ : ByteArray).size ∧ Hid (wr.heap[wc0.heap.size]? = some (.stringIter ⟨#[]⟩ pos)) ∧ Hid (Below w.heap.size w wr))
        case atStart => exact ⟨0, by omega, World.iter_heap wc0 ⟨#[]⟩ 0, Lib.hid (B0.out.alloc B0.out.size _)⟩
        case round =>
          obtain ⟨pos, hple, hit, hbw⟩ := hrel
          by_cases hp : pos < (⟨#[]⟩ : ByteArray).size
          · exact absurd hp (by show ¬ pos < 0; omega)
          · have hnx : ∀ ty, (Instr.next (.pointer (some ⟨wc0.heap.size, 0, none⟩)) true ty).run Tryz.prog wr = .ok (.tuple #[.bool false]) wr := fun ty => Lib.run_next_end_at wr wc0.heap.size ⟨#[]⟩ pos ty hit.out hp
            go_wp2_with fail
            go_meet
            case rel => exact hbw
      · have hmz : ((m : Int) == 0) = false := by simp; omega
        clear h0
        go_wp2_with fail
        go_loopg [19] C.size (fun g _ wr => ∃ pos : Nat, pos + g = C.size ∧ Hid (wr.heap[wc0.heap.size]? = some (.stringIter C pos)) ∧ Hid (Below w.heap.size w wr))
        case atStart => exact ⟨0, by omega, World.iter_heap wc0 C 0, Lib.hid (B0.out.alloc B0.out.size _)⟩
        case round =>
          obtain ⟨pos, hple, hit, hbw⟩ := hrel
          by_cases hp : pos < C.size
          · obtain ⟨hlt, n, hmn, hlz⟩ := HC.out pos hp
            obtain ⟨ch, hch⟩ : ∃ ch : UInt8, ch = C[pos]'hp := ⟨_, rfl⟩
            have hnx : ∀ ty, (Instr.next (.pointer (some ⟨wc0.heap.size, 0, none⟩)) true ty).run Tryz.prog wr = .ok (.tuple #[.bool true, .int .i64 (pos : Int), .int .i32 (ch.toNat : Int)]) (wr.iterAt wc0.heap.size C (pos + 1)) := fun ty => by
              rw [hch]; exact Lib.run_next_ascii_at wr wc0.heap.size C pos ty hit.out hp hlt
            have hit2 := Lib.hid (Lib.iterAt_heap wr wc0.heap.size C pos (pos + 1) hit.out)
            have hbw2 := Lib.hid (Lib.below_iterAt hbw.out (k := wc0.heap.size) B0.out.size C (pos + 1))
            clear hch hlt
            obtain ⟨W1, hW1⟩ : ∃ W1, W1 = wr.iterAt wc0.heap.size C (pos + 1) := ⟨_, rfl⟩
            rw [← hW1] at hnx hit2 hbw2
            clear hW1
            have hw1 : IntKind.i64.wrap ((pos : Int) + 1) = ((pos + 1 : Nat) : Int) := by rw [IntKind.wrap_i64] <;> omega
            have hle : pos + 1 ≤ C.size := hp
            have hw2 : IntKind.i64.wrap ((m : Int) - 1) = (n : Int) := by rw [hmn]; rw [IntKind.wrap_i64] <;> omega
            obtain ⟨X, hX⟩ : ∃ X, X = C.extract pos (pos + 1) := ⟨_, rfl⟩
            rw [← hX] at hlz
            have HX := Lib.hid hX
            have HLZ := Lib.hid (fun w => hlz w)
            clear hX hlz hmn
            go_wp2_with fail
            rw [← HX.out]
            with_reducible refine (HLZ.out _).mono ?_
            rintro e y1 ⟨rfl, _, b1⟩
            have hit3 := Lib.hid (iter_below hit2.out b1)
            have hbw3 := Lib.hid (below_trans hbw2.out b1 hbw2.out.size)
            clear b1 hnx
            go_wp2_with fail
            go_roundg (gk - 1)
            case rel => exact ⟨pos + 1, by omega, hit3, hbw3⟩
            case measure => omega
          · have hnx : ∀ ty, (Instr.next (.pointer (some ⟨wc0.heap.size, 0, none⟩)) true ty).run Tryz.prog wr = .ok (.tuple #[.bool false]) wr := fun ty => Lib.run_next_end_at wr wc0.heap.size C pos ty hit.out hp
            go_wp2_with fail
            go_meet
            case rel => exact hbw
    case rest =>
      rename_i KK aK
      refine aK _ _ ?_
      exact zsE a0 n0 c0 a1 n1 c1 w _ A0 A1 hcut _ _ _ _ _ _ _ _ _ _ _ _ _ _ _ _ _ _ _ _ _ _ _ _ _ _ _ _ _ _ _ _ _ _ _ _ _ _ _ _ _ _ _ _ _ _ _ _ _ _ _ _ _ _ _ _ _ _ _ _ _ _ _ _ _ _ _ _ _ _ _ _ _ _ _ _ _ _ _ _ _ _ _ _ _ _ _ _ _ _ _ _ _ _ _ _ _ _ _ _ _ _ _ _ _ _ _ _ _ _ _ _ _ _ _ _ _ _ _ _ _ _ _ _ _ _ _ _ _ _ _ _ _ _ _ _ _ _ _ _ _ _ _ _ _ _ _ _ _ _ _ _ _ _ _ _ _ _ _ _ _ _ _ _ _ _ _ _ _ _ _ _ _ _ _ _ _ _ _ _ _ _ _ _ _ _ _ _ _ _ _ _ _ _ _ _ _ _ _ _ _ _ _ _ _ _ _ _ _ _ _ _ _ _ _ _ _ _ _ _ _ _ _ _ _ _ _ _ _ _ _ _ _ _ _ _ _ _ _ _ _ _ _ _ _ _ _ _ _ _ _ _ _ _ _ _ _ _ _ _ _ _ _ _ _ _ _ _ _ _ _ _ _ _ _ _ _ _ _ _ _ _ _ _ _ _ _ _ _ _ _ _ _ _ _ _ _ _ _ _
end Go.Proofs.YtlhmjcfnfefliaaGreat.T1
