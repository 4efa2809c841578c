/- Texts of the proof, put together: CKindOf, Gf. No conditions. -/
import Derived.Test.YtajgncapgeiniaaGreatHas
import Derived.Test.YtajgncapgeiniaaGreatHax
import Derived.Test.YtajgncapgeiniaaGreatProg
import Derived.WalkKit
import Derived.ProofKit
import Derived.OpenShut
import Derived.ShutString
import Derived.ChangeOld
import Derived.Below
import Derived.Deep.LoopGhost

/- What KindOf answers on both sides. No conditions. -/
namespace Go.Proofs.YtajgncapgeiniaaGreat
namespace LawKindOf
open Go.ChangeShapes Go.WideShapes Go.ChangeAt Go.RowKit Go.Proofs.YtajgncapgeiniaaGreat.T1
open Go.ChangeMaps (open_string shut_string)
set_option linter.unusedVariables false

theorem conv1 (k : UInt8) (w : World) : (convert 22 9 (.slice (some ⟨w.heap.size, 0, none⟩) 1 1)).run Tryz.prog (w.alloc (.cells #[.int .u8 (k.toNat : Int)] 5)) = .ok (.string (one k)) (w.alloc (.cells #[.int .u8 (k.toNat : Int)] 5)) :=
  run_convert_bytes_back _ 22 9 5 _ 1 [k] Tryz.underlying22 Tryz.underlying5 Tryz.underlying9 (fun j hj => by
    have : j = 0 := by simp at hj; omega
    subst this
    rw [show (⟨w.heap.size, 0, none⟩ : Addr).add 0 = ⟨w.heap.size, 0, none⟩ from rfl, World.cell?_alloc_new]; rfl)

theorem spec_none (s : ByteArray) (hg : good s.data.toList = none) (hm : s.size ≤ 9223372036854775807) (w : World) : Calls Tryz.prog 14 #[.string s] w fun e w' => e = .returned (.tuple #[.string ⟨#[]⟩, .bool false]) ∧ Below w.heap.size w w' := by
  have H := Lib.hid (tmGood_none hg w hm)
  clear hg
  go_enter Tryz.func14, Tryz.ntmps14
  go_wp2_with fail
  refine (H.out).mono ?_
  rintro e w1 ⟨rfl, bl⟩
  go_wp2_with fail
  go_ret2
  exact ⟨rfl, bl⟩
theorem impl_none (s : ByteArray) (hg : good s.data.toList = none) (hm : s.size ≤ 9223372036854775807) (w : World) : Calls Tryz.prog 13 #[.string s] w fun e w' => e = .returned (.tuple #[.string ⟨#[]⟩, .bool false]) ∧ Below w.heap.size w w' := by
  have H := Lib.hid (parse_none hg w hm)
  clear hg
  go_enter Tryz.func13, Tryz.ntmps13
  go_wp2_with fail
  refine (H.out).mono ?_
  rintro e w1 ⟨rfl, bl⟩
  go_wp2_with fail
  go_ret2
  exact ⟨rfl, bl⟩
set_option maxHeartbeats 1000000 in
theorem spec_some (s : ByteArray) (t : Tm) (hg : good s.data.toList = some t) (hm : s.size ≤ 9223372036854775807) (w : World) : Calls Tryz.prog 14 #[.string s] w fun e w' => e = .returned (.tuple #[.string (one t.kind), .bool true]) ∧ Below w.heap.size w w' := by
  have H := Lib.hid (tmGood_some hg w hm)
  obtain ⟨es, hL, hE, h300, h60⟩ := good_S hg
  have HS := tmKind_any t hE (by omega)
  rw [← es] at HS
  obtain ⟨k, hk⟩ : ∃ k, k = t.kind := ⟨_, rfl⟩
  rw [← hk] at HS ⊢
  have H2 := Lib.hid HS
  have hcv := conv1 k
  clear hg es hL hE h300 h60 HS hk
  go_enter Tryz.func14, Tryz.ntmps14
  go_wp2_with fail
  refine (H.out).mono ?_
  rintro e w1 ⟨rfl, bl⟩
  go_wp2_with fail
  refine (H2.out _).mono ?_
  rintro e w2 ⟨rfl, rfl⟩
  go_wp2_with fail
  go_ret2
  exact ⟨rfl, bl.alloc bl.size _⟩

set_option maxHeartbeats 1000000 in
theorem impl_some (s : ByteArray) (t : Tm) (hg : good s.data.toList = some t) (hm : s.size ≤ 9223372036854775807) (w : World) : Calls Tryz.prog 13 #[.string s] w fun e w' => e = .returned (.tuple #[.string (one t.kind), .bool true]) ∧ Below w.heap.size w w' := by
  have H := Lib.hid (parse_some hg w hm)
  obtain ⟨es, hL, hE, h300, h60⟩ := good_S hg
  obtain ⟨F, R, hm1, hn1, hc1, hp⟩ := (kind_fact t).pf
  obtain ⟨T, hT⟩ : ∃ T, T = tyOf t := ⟨_, rfl⟩
  obtain ⟨V, hV⟩ : ∃ V, V = pay t := ⟨_, rfl⟩
  obtain ⟨k, hk⟩ : ∃ k, k = t.kind := ⟨_, rfl⟩
  rw [← hT, ← hV] at H hm1 hn1
  rw [← hk] at hp ⊢
  have H2 := Lib.hid hp
  clear hg es hL hE h300 h60 hp hT hV hk
  go_enter Tryz.func13, Tryz.ntmps13
  go_wp2_with fail
  refine (H.out).mono ?_
  rintro e w1 ⟨rfl, bl⟩
  go_wp2_with fail
  refine (H2.out _).mono ?_
  rintro e w2 ⟨rfl, b2⟩
  go_wp2_with fail
  go_ret2
  exact ⟨rfl, below_trans bl b2 bl.size⟩
end LawKindOf
end Go.Proofs.YtajgncapgeiniaaGreat

/- Texts that are spoilt. No conditions. -/
namespace Go.Proofs.YtajgncapgeiniaaGreat.T1
open Go.RowKit
set_option maxRecDepth 100000
set_option linter.unusedVariables false
set_option linter.unusedSimpArgs false

theorem ab_ext {n : Nat} {s : ByteArray} (h : Ab n (.string s)) (a b m : Nat) (hm : b ≤ a + m) : Ab m (.string (s.extract a b)) := by
  obtain ⟨_, e, h1, h2⟩ := h
  cases e
  refine ⟨_, rfl, by rw [ByteArray.size_extract]; omega, fun x hx => h2 x ?_⟩
  rw [ByteArray.data_extract, Array.toList_extract] at hx
  exact List.mem_of_mem_drop (List.mem_of_mem_take hx)
theorem ab_one {ch : UInt8} (h : AB ch = true) : Ab 1 (.string (one ch)) := ⟨_, rfl, Nat.le_refl _, fun b hb => by
  have : b = ch := by simpa [one] using hb
  subst this; exact h⟩
set_option maxHeartbeats 4000000 in
theorem spoilt_any (c k M : Nat) (s0 wi : ByteArray) (hk : k ≤ 500000) (hM : M ≤ 1000) (hs0 : Ab M (.string s0)) (hw0 : 1 ≤ wi.size) (hw1 : wi.size ≤ 100) (hwa : ∀ b ∈ wi.data.toList, AB b = true) (w : World) (hC : Cur w c k) :
    Calls Tryz.prog 107 #[.pointer (some ⟨c, 0, none⟩), .string s0, .string wi] w (Dr (Ab (M + 2)) c (k + 20) w) := by
  have HC := Lib.hid hC
  have HS := Lib.hid hs0
  have HW := Lib.hid (And.intro hw0 (And.intro hw1 hwa))
  have HK := Lib.hid (And.intro hk hM)
  clear hC hs0 hw0 hw1 hwa hk hM
  go_enter Tryz.func107, Tryz.ntmps107
  go_wp2_with fail
  refine (pick_lt c k 2 (by decide) (by have := HK.out; omega) (by decide) _ HC.out).mono ?_
  rintro e w1 ⟨v, rfl, ⟨r1, l1, rfl⟩, c1, o1⟩
  have C1 := Lib.hid c1
  have O1 := Lib.hid o1
  obtain ⟨n, hn⟩ : ∃ n, n = 1 + r1 := ⟨_, rfl⟩
  have hw1 : IntKind.i64.wrap (1 + (r1 : Int)) = (n : Int) := by rw [IntKind.wrap_i64] <;> omega
  have HN := Lib.hid (show n ≤ 2 by omega)
  clear c1 o1 l1 hn
  go_wp2_with fail
  go_loopg [1, 7] n (fun g s1 s7 wr => ∃ s : ByteArray, s1 = .string s ∧ s7 = .int .i64 (g : Int) ∧ Hid (g ≤ 2) ∧ Hid (Ab (M + 2 - g) (.string s)) ∧ Hid (Cur wr c (k + 2 + 6 * (2 - g))) ∧ Hid (Only c w wr))
  case atStart => exact ⟨s0, rfl, rfl, HN, ab_mono HS.out (by have := HN.out; omega), C1.out.mono (by omega), O1⟩
  case round =>
    obtain ⟨s, rfl, rfl, hg, hs, hC, hO⟩ := hrel
    by_cases hlt : 0 < gk
    · have d1 : decide (0 < (gk : Int)) = true := by simp; omega
      by_cases hz : 0 < s.size
      · have d2 : decide (0 < (s.size : Int)) = true := by simp; omega
        go_wp2_with fail
        refine (pick_lt c _ s.size hz (by have := HK.out; have := hg.out; omega) (by have := ab_of hs.out; have := HK.out; omega) _ hC.out).mono ?_
        rintro e w2 ⟨v, rfl, ⟨r2, l2, rfl⟩, c2, o2⟩
        have C2 := Lib.hid c2
        have O2 := Lib.hid (hO.out.trans o2)
        have R2 := Lib.hid l2
        clear c2 o2 l2 hC hO
        go_wp2_with fail
        refine (pick_lt c _ wi.size HW.out.1 (by have := HK.out; have := hg.out; omega) (by have := HW.out; omega) _ C2.out).mono ?_
        rintro e w3 ⟨v, rfl, ⟨r3, l3, rfl⟩, c3, o3⟩
        have C3 := Lib.hid c3
        have O3 := Lib.hid (O2.out.trans o3)
        have hch : AB (wi[r3]'l3) = true := HW.out.2.2 _ (by rw [ByteArray.getElem_eq_getElem_data]; exact Array.getElem_mem_toList _)
        have hcv := LawKindOf.conv1 (wi[r3]'l3) w3
        have l3' : (r3 : Int) < (wi.size : Int) := by omega
        have HCH := Lib.hid hch
        clear c3 o3 hch C2 O2
        go_wp2_with fail
        refine (pick_lt c _ 3 (by decide) (by have := HK.out; have := hg.out; omega) (by decide) _ (C3.out.below ((Below.refl _ _).alloc (Nat.le_refl _) _))).mono ?_
        rintro e w4 ⟨v, rfl, ⟨r4, l4, rfl⟩, c4, o4⟩
        obtain ⟨ch, hch⟩ : ∃ ch, ch = wi[r3]'l3 := ⟨_, rfl⟩
        rw [← hch]
        rw [← hch] at HCH
        have C4 := Lib.hid (c4.mono (show _ ≤ k + 2 + 6 * (2 - (gk - 1)) by have := hg.out; omega))
        have O4 := Lib.hid ((O3.out.alloc _).trans o4)
        clear c4 o4 C3 O3 hcv l3' hch
        have hz2 : s.size ≤ 1002 := by have := ab_of hs.out; have := HK.out; omega
        have hr2 : r2 ≤ s.size := Nat.le_of_lt R2.out
        have hr2' : (r2 : Int) ≤ (s.size : Int) := by omega
        have hr3' : (r2 : Int) + 1 ≤ (s.size : Int) := by have := R2.out; omega
        have hwi : IntKind.i64.wrap ((r2 : Int) + 1) = ((r2 + 1 : Nat) : Int) := by rw [IntKind.wrap_i64] <;> omega
        have hwg : IntKind.i64.wrap ((gk : Int) - 1) = ((gk - 1 : Nat) : Int) := by have := hg.out; rw [IntKind.wrap_i64] <;> omega
        have hch1 : (one ch).size = 1 := rfl
        have e1 : (s.extract 0 r2).size = r2 := by rw [ByteArray.size_extract]; omega
        have e2 : (s.extract r2 s.size).size = s.size - r2 := by rw [ByteArray.size_extract]; omega
        have e3 : (s.extract (r2 + 1) s.size).size = s.size - (r2 + 1) := by rw [ByteArray.size_extract]; omega
        rcases (show r4 = 0 ∨ r4 = 1 ∨ r4 = 2 from by omega) with rfl | rfl | rfl
        · go_wp2_with fail
          go_quiet (fail)
          go_wp2_with fail
          go_roundg (gk - 1)
          case rel => exact ⟨_, rfl, rfl, Lib.hid (by have := hg.out; omega), ab_mono (ab_app (ab_app (ab_ext hs.out 0 r2 r2 (by omega)) (ab_one HCH.out)) (ab_ext hs.out r2 s.size (s.size - r2) (by omega))) (by have := ab_of hs.out; have := hg.out; omega), C4.out.below (below_drewN' (Below.refl _ _) _), O4.out.drewN _⟩
          case measure => omega
        · go_wp2_with fail
          go_quiet (fail)
          go_wp2_with fail
          go_roundg (gk - 1)
          case rel => exact ⟨_, rfl, rfl, Lib.hid (by have := hg.out; omega), ab_mono (ab_app (ab_app (ab_ext hs.out 0 r2 r2 (by omega)) (ab_one HCH.out)) (ab_ext hs.out (r2 + 1) s.size (s.size - r2) (by omega))) (by have := ab_of hs.out; have := hg.out; omega), C4.out.below (below_drewN' (Below.refl _ _) _), O4.out.drewN _⟩
          case measure => omega
        · go_wp2_with fail
          go_quiet (fail)
          go_wp2_with fail
          go_roundg (gk - 1)
          case rel => exact ⟨_, rfl, rfl, Lib.hid (by have := hg.out; omega), ab_mono (ab_app (ab_ext hs.out 0 r2 r2 (by omega)) (ab_ext hs.out (r2 + 1) s.size (s.size - r2) (by omega))) (by have := ab_of hs.out; have := hg.out; omega), C4.out.below (below_drewN' (Below.refl _ _) _), O4.out.drewN _⟩
          case measure => omega
      · have d2 : decide (0 < s.size) = false := decide_eq_false hz
        clear hz
        go_wp2_with fail
        go_ret
        exact ⟨.string s, rfl, ab_mono hs.out (by omega), hC.out.mono (by have := hg.out; omega), hO.out⟩
    · have d1 : decide (0 < gk) = false := decide_eq_false hlt
      clear hlt
      go_wp2_with fail
      go_ret
      exact ⟨.string s, rfl, ab_mono hs.out (by omega), hC.out.mono (by have := hg.out; omega), hO.out⟩
end Go.Proofs.YtajgncapgeiniaaGreat.T1
