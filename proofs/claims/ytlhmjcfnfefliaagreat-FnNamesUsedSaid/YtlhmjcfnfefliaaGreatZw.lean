/- The law of names that are used: its walk. No conditions. -/
import Derived.Test.YtlhmjcfnfefliaaGreatZe
import Derived.Deep.CutRange
import Derived.Deep.DeepCutAuto
import Derived.Deep.LoopGhost
namespace Go.Proofs.YtlhmjcfnfefliaaGreat.T1
open Go.RowKit
set_option maxRecDepth 100000
set_option linter.unusedVariables false
set_option linter.unusedSimpArgs false
theorem ext1_B (l : List UInt8) (i : Nat) (h : i < l.length) : (B l).extract i (i + 1) = B [l[i]] := by
  apply ByteArray.ext
  rw [ByteArray.data_extract]
  show (l.toArray).extract i (i + 1) = [l[i]].toArray
  rw [List.extract_toArray]
  congr 1
  rw [List.extract_eq_take_drop]
  have : i + 1 - i = 1 := by omega
  rw [this, List.drop_eq_getElem_cons h]; rfl
set_option maxHeartbeats 20000000 in
theorem walkZ (a0 : Option Addr) (n0 c0 : Nat) (a1 : Option Addr) (n1 c1 : Nat) (w : World) (h0 : Arg w a0 n0) (h1 : Arg w a1 n1) :
    Calls Tryz.prog 3 #[.slice a0 n0 c0, .slice a1 n1 c1] w fun e w' => e = .returned (.bool true) ∧ Below w.heap.size w w' := by
  have HB := Lib.hid (big_any a0 a1 n0 c0 n1 c1 h0.1 h1.1 w)
  have A0 := Lib.hid h0
  have A1 := Lib.hid h1
  clear h0 h1
  generalize isBig n0 n1 = bb at HB
  cases bb with
  | true =>
    go_enter Tryz.func3, Tryz.ntmps3
    go_wp2_with fail
    with_reducible refine HB.out.mono ?_
    rintro e w1 ⟨rfl, rfl⟩
    go_wp2_with fail
    go_ret
    exact ⟨rfl, Below.refl _ _⟩
  | false =>
  go_enter Tryz.func3, Tryz.ntmps3
  go_wp2_with fail
  with_reducible refine HB.out.mono ?_
  rintro e w0 ⟨rfl, rfl⟩
  have B0 := Lib.hid (Below.refl w.heap.size w)
  clear HB
  go_wp2_with fail
  with_reducible refine (dLevelOf_any a0 n0 c0 _ (A0.out.below B0.out)).mono ?_
  rintro e x1 ⟨⟨s, a, rfl, hs, ha⟩, b1⟩
  have B1 := Lib.hid (B0.out.trans (b1.mono B0.out.size))
  clear b1 B0
  obtain ⟨LL, T, C, q, q2, h6, hCs, hq⟩ := sixZ s a (by omega)
  have LVi := Lib.hid (fun w => h6.li w)
  have LVs := Lib.hid (fun w => h6.ls w)
  have STi := Lib.hid (fun w => h6.ti w)
  have STs := Lib.hid (fun w => h6.ts w)
  have CAi := Lib.hid (fun w => h6.ci w)
  have CAs := Lib.hid (fun w => h6.cs w)
  have HV := Lib.hid (And.intro hCs hq)
  have hs' := Lib.hid hs
  have hq2 : q = true → q2 = true := fun h => (hq h).1
  have hbb : (q != q) = false := by cases q <;> rfl
  have hcc : (q2 != q2) = false := by cases q2 <;> rfl
  have hqq : (q && !q2) = false := by cases q <;> cases q2 <;> simp_all
  clear h6 hq hs ha hCs
  go_wp2_with fail
  with_reducible refine (LVi.out _).mono ?_
  rintro e x2 ⟨rfl, hLb, b2⟩
  have B2 := Lib.hid (B1.out.trans (b2.mono B1.out.size))
  clear b2 B1
  go_wp2_with fail
  with_reducible refine (LVs.out _).mono ?_
  rintro e x3 ⟨rfl, b3⟩
  have B3 := Lib.hid (B2.out.trans (b3.mono B2.out.size))
  clear b3 B2
  go_wp2_with fail
  with_reducible refine (STi.out _).mono ?_
  rintro e x4 ⟨rfl, b4⟩
  have B4 := Lib.hid (B3.out.trans (b4.mono B3.out.size))
  clear b4 B3
  go_wp2_with fail
  with_reducible refine (STs.out _).mono ?_
  rintro e x5 ⟨rfl, b5⟩
  have B5 := Lib.hid (B4.out.trans (b5.mono B4.out.size))
  clear b5 B4
  go_wp2_with fail
  with_reducible refine (CAi.out _).mono ?_
  rintro e x6 ⟨rfl, b6⟩
  have B6 := Lib.hid (B5.out.trans (b6.mono B5.out.size))
  clear b6 B5
  go_wp2_with fail
  with_reducible refine (CAs.out _).mono ?_
  rintro e x7 ⟨rfl, b7⟩
  have B7 := Lib.hid (B6.out.trans (b7.mono B6.out.size))
  clear b7 B6
  have HLB := Lib.hid hLb
  clear hLb
  go_upto_region 10 with fail
  go_cut [125] from 86 to 124 (fun s125 wx => s125 = .bool false ∧ wx = x7)
  case first =>
    cases q with
    | false =>
      go_wp2_with fail
      go_meet
      case rel => exact ⟨rfl, rfl⟩
    | true =>
      have hq3 := hq2 (by trivial)
      subst hq3
      go_wp2_with fail
      go_meet
      case rel => exact ⟨rfl, rfl⟩
  case rest =>
    obtain ⟨rfl, rfl⟩ := hcut
    go_upto_if 125 with fail
    go_cut [] from 125 to 125 (fun wx => wx = wc)
    case first =>
      go_wp2_with fail
      go_meet
      case rel => rfl
    case rest =>
    subst hcut
    obtain ⟨hCs, hq⟩ := HV.out
    have hs := hs'.out
    have hlb := HLB.out
    clear HV LVi LVs STi STs CAi CAs
    rename_i KK aK
    refine aK _ _ ?_
    refine zsA a0 n0 c0 a1 n1 c1 w _ A0 A1 B7 s LL q T C hCs (fun h => ?_) _ _ _ _ _ _ _ _ _ _ _ _ _ _ _ _ _ _ _ _ _ _ _ _ _ _ _ _ _ _ _ _ _ _ _ _ _ _ _ _ _ _ _ _ _ _ _ _ _ _ _ _ _ _ _ _ _ _ _ _ _ _ _ _ _ _ _ _ _ _ _ _ _ _ _ _ _ _ _ _ _ _ _ _ _ _ _ _ _ _ _ _ _ _ _ _ _ _ _ _ _ _ _ _ _ _ _ _ _ _ _ _ _ _ _ _ _ _ _ _ _ _ _ _ _ _ _ _ _ _ _ _ _ _ _ _ _ _ _ _ _ _ _ _ _ _ _ _ _ _ _ _ _ _ _ _ _ _ _ _ _ _ _ _ _ _ _ _ _ _ _ _ _ _ _ _ _ _ _ _ _ _ _ _ _ _ _ _ _ _ _ _ _ _ _ _ _ _ _ _ _ _ _ _ _ _ _ _ _ _ _ _ _ _ _ _ _ _ _ _ _ _ _ _ _ _ _ _ _ _ _ _ _ _ _ _ _ _ _ _ _ _ _ _ _ _ _ _ _ _ _ _ _ _ _ _ _ _ _ _ _ _ _ _ _ _ _ _ _ _ _ _ _ _ _ _ _ _ _ _ _ _ _ _ _ _ _ _ _ _ _ _ _ _ _
    obtain ⟨_, t, x, m, hI, rfl, rfl, rfl⟩ := hq h
    refine ⟨m, rfl, by omega, PS_size m, fun e => ?_, fun i hi => ?_⟩
    · subst e
      have : (t.free.filter fun y => decB (carr6 t x y)) = [] := List.filter_eq_nil_iff.2 fun y _ hy => lev_zero hI.2.2.2 ((decB_iff _).1 hy)
      rw [this]; rfl
    · obtain ⟨hg, hn, he, hl⟩ := hI
      obtain ⟨es, hL, hE, h300, h60⟩ := good_S hg
      have hi' := hi
      rw [B_size] at hi'
      have hget : (B (t.free.filter fun y => decB (carr6 t x y)))[i]'hi = (t.free.filter fun y => decB (carr6 t x y))[i] := by simp [B, ByteArray.getElem_eq_getElem_data]
      have hmem := List.getElem_mem hi'
      obtain ⟨hf, hc⟩ := List.mem_filter.1 hmem
      obtain ⟨n, hmn, hly⟩ := lev_less hl ((decB_iff _).1 hc)
      have hlet := lets_free t hL _ hf
      refine ⟨by rw [hget]; omega, n, hmn, ?_⟩
      rw [ext1_B _ i hi']
      exact levZ_of (by omega) ⟨hg, nameOf_yes ((nmL_iff _).2 hlet) hf, he, hly⟩
end Go.Proofs.YtlhmjcfnfefliaaGreat.T1
