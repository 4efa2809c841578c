/- The law of canonical names: its walk. No conditions. -/
import Derived.Test.YtmfmagfgcdaeeaaGreatTv
import Derived.Deep.CutRange
import Derived.Deep.DeepCutAuto
import Derived.Deep.LoopGhost
namespace Go.Proofs.YtmfmagfgcdaeeaaGreat.T1
open Go.RowKit
set_option maxRecDepth 100000
set_option linter.unusedVariables false
set_option linter.unusedSimpArgs false
set_option maxHeartbeats 20000000 in
theorem walkC (a0 : Option Addr) (n0 c0 : Nat) (a1 : Option Addr) (n1 c1 : Nat) (w : World) (h0 : Arg w a0 n0) (h1 : Arg w a1 n1) :
    Calls Tryz.prog 3 #[.slice a0 n0 c0, .slice a1 n1 c1] w fun e w' => e = .returned (.bool true) ∧ Below w.heap.size w w' := by
  have HB := Lib.hid (big_any a0 a1 n0 c0 n1 c1 h0.1 h1.1 w)
  have A0 := Lib.hid h0
  have A1 := Lib.hid h1
  clear h0 h1
  generalize isBig n0 n1 = bb at HB
  cases bb with
  | true =>
    go_enter Tryz.func3, Tryz.ntmps3
    go_wp2_with fail
    with_reducible refine HB.out.mono ?_
    rintro e w1 ⟨rfl, rfl⟩
    go_wp2_with fail
    go_ret
    exact ⟨rfl, Below.refl _ _⟩
  | false =>
  go_enter Tryz.func3, Tryz.ntmps3
  go_wp2_with fail
  with_reducible refine HB.out.mono ?_
  rintro e w0 ⟨rfl, rfl⟩
  have B0 := Lib.hid (Below.refl w.heap.size w)
  clear HB
  go_wp2_with fail
  with_reducible refine (dCanonicalNames_any a0 n0 c0 _ (A0.out.below B0.out)).mono ?_
  rintro e x1 ⟨⟨s, rfl, a2⟩, b1⟩
  have B1 := Lib.hid (B0.out.trans (b1.mono B0.out.size))
  clear b1 B0
  obtain ⟨_, es2, hs, _⟩ := a2
  cases es2
  obtain ⟨hcs, hci⟩ := canoJ s (by omega)
  have hbs : (cnB (good s.data.toList) != cnB (good s.data.toList)) = false := by cases cnB (good s.data.toList) <;> rfl
  obtain ⟨X, hX⟩ : ∃ X, X = cnT (good s.data.toList) := ⟨_, rfl⟩
  obtain ⟨cb, hcb⟩ : ∃ cb, cb = cnB (good s.data.toList) := ⟨_, rfl⟩
  have hV : cb = true → ∃ t, good s.data.toList = some t ∧ canB t = true ∧ X = S (cano t) := by
    intro e
    rw [hcb] at e
    cases hg : good s.data.toList with
    | none => rw [hg] at e; cases e
    | some t =>
      rw [hg] at e hX
      have hc : canB t = true := e
      refine ⟨t, rfl, hc, ?_⟩
      rw [hX]; show (if canB t then S (cano t) else ⟨#[]⟩) = _; rw [hc]; rfl
  rw [← hX, ← hcb] at hcs hci
  rw [← hcb] at hbs
  have CNi := Lib.hid (fun w => hci w)
  have CNs := Lib.hid (fun w => hcs w)
  have HV := Lib.hid (And.intro hs hV)
  clear hcs hci hX hcb hV hs
  go_wp2_with fail
  with_reducible refine (CNi.out _).mono ?_
  rintro e x2 ⟨rfl, b2⟩
  have B2 := Lib.hid (B1.out.trans (b2.mono B1.out.size))
  clear b2 B1
  go_wp2_with fail
  with_reducible refine (CNs.out _).mono ?_
  rintro e x3 ⟨rfl, b3⟩
  have B3 := Lib.hid (B2.out.trans (b3.mono B2.out.size))
  clear b3 B2
  go_upto_if 62 with fail
  go_cut [4, 10, 11, 12, 13, 14, 15, 16, 17, 18, 19] from 63 to 124 (fun _ _ _ _ _ _ _ _ _ _ _ wx => Hid (Below w.heap.size w wx))
  case first =>
    obtain ⟨hs, hV⟩ := HV.out
    cases cb with
    | false =>
      go_wp2_with fail
      go_meet
      case rel => exact B3
    | true =>
      obtain ⟨t, hg, hc, e⟩ := hV rfl
      obtain ⟨hg2, hz⟩ := cano_good hg hc
      rw [← e] at hg2 hz
      obtain ⟨es, hL, hE, h300, h60⟩ := good_S hg
      have hb1 := LawAreAlpha.bnd_lt t
      have hge : t.bnd.length ≤ (othL t.free).length := of_decide_eq_true hc
      obtain ⟨n, b, _, hal, _, hb2⟩ := alphaJ s X (by omega) (by omega)
      obtain ⟨rfl, hn⟩ := hb2 t (cano t) hg hg2
      have hn1 : n = true := by
        rw [hn]
        exact decide_eq_true (can_can t id id _ marks hge (oth_nd _) (oth_no t)).symm
      subst hn1
      have hag := (canoJ X (by omega)).2
      have hwl := (wellJ X (by omega)).2
      have hf1 := freeJ s t hg (by omega)
      have hf2 := freeJ X (cano t) hg2 (by omega)
      rw [hg2] at hag hwl
      have c2 := canB_cano hc
      rw [show cnB (some (cano t)) = true from c2, show cnT (some (cano t)) = X by
        show (if canB (cano t) then S (cano (cano t)) else ⟨#[]⟩) = _
        rw [c2, cano_twice hge]; exact e.symm] at hag
      rw [show wnJ (some (cano t)) = true from decide_eq_true (well_cano hc)] at hwl
      rw [cano_free hge] at hf2
      obtain ⟨G, hG⟩ : ∃ G, G = B t.free := ⟨_, rfl⟩
      rw [← hG] at hf1 hf2
      have HA := Lib.hid (fun w => hal w)
      have HC := Lib.hid (fun w => hag w)
      have HW := Lib.hid (fun w => hwl w)
      have HF := Lib.hid (fun w => hf1 w)
      have HF2 := Lib.hid (fun w => hf2 w)
      have hXX : (X.toList != X.toList) = false := by simp
      have hGG : (G.toList != G.toList) = false := by simp
      clear HV hV hg hc e hg2 hz es hL hE h300 h60 hb1 hge hal hb2 hn hag hwl hf1 hf2 c2 hG hs
      go_wp2_with fail
      with_reducible refine (HA.out _).mono ?_
      rintro e y4 ⟨rfl, b4⟩
      have B4 := Lib.hid (B3.out.trans (b4.mono B3.out.size))
      clear b4 B3
      go_wp2_with fail
      with_reducible refine (HC.out _).mono ?_
      rintro e y5 ⟨rfl, b5⟩
      have B5 := Lib.hid (B4.out.trans (b5.mono B4.out.size))
      clear b5 B4
      go_wp2_with fail
      with_reducible refine (HW.out _).mono ?_
      rintro e y6 ⟨rfl, b6⟩
      have B6 := Lib.hid (B5.out.trans (b6.mono B5.out.size))
      clear b6 B5
      go_wp2_with fail
      with_reducible refine (HF.out _).mono ?_
      rintro e y7 ⟨rfl, b7⟩
      have B7 := Lib.hid (B6.out.trans (b7.mono B6.out.size))
      clear b7 B6
      go_wp2_with fail
      with_reducible refine (HF2.out _).mono ?_
      rintro e y8 ⟨rfl, b8⟩
      have B8 := Lib.hid (B7.out.trans (b8.mono B7.out.size))
      clear b8 B7
      go_wp2_with fail
      go_meet
      case rel => exact B8
  case rest =>
    clear HV CNi CNs
    rename_i KK aK
    refine aK _ _ ?_
    exact tsE a0 n0 c0 a1 n1 c1 w _ A0 A1 hcut _ _ _ _ _ _ _ _ _ _ _ _ _ _ _ _ _ _ _ _ _ _ _ _ _ _ _ _ _ _ _ _ _ _ _ _ _ _ _ _ _ _ _ _ _ _ _ _ _ _ _ _ _ _ _ _ _ _ _ _ _ _ _ _ _ _ _ _ _ _ _ _ _ _ _ _ _ _ _ _ _ _ _ _ _ _ _ _ _ _ _ _ _ _ _ _ _ _ _ _ _ _ _ _ _ _ _ _ _ _ _ _ _ _ _ _ _ _ _ _ _ _ _ _ _ _ _ _ _ _ _ _ _ _ _ _ _ _ _ _ _ _ _ _ _ _ _ _ _ _ _ _ _ _ _ _ _ _ _ _ _ _ _ _ _ _ _ _ _ _ _ _ _ _ _ _ _ _ _ _ _ _ _ _ _ _ _ _ _ _ _ _ _ _ _ _ _ _ _ _ _ _ _ _ _ _ _ _ _ _ _ _ _ _ _ _ _ _ _
end Go.Proofs.YtmfmagfgcdaeeaaGreat.T1
