/- The law of names: its walk. No conditions. -/
import Derived.Test.YtpabmidjfpabdaaGreatYh
import Derived.Test.YtpabmidjfpabdaaGreatHbt
import Derived.Deep.CutRange
import Derived.Deep.DeepCutAuto
import Derived.Deep.LoopGhost
namespace Go.Proofs.YtpabmidjfpabdaaGreat.T1
open Go.RowKit
set_option maxRecDepth 100000
set_option linter.unusedVariables false
set_option linter.unusedSimpArgs false
set_option maxHeartbeats 20000000 in
theorem walkN (a0 : Option Addr) (n0 c0 : Nat) (a1 : Option Addr) (n1 c1 : Nat) (w : World) (h0 : Arg w a0 n0) (h1 : Arg w a1 n1) :
    Calls Tryz.prog 3 #[.slice a0 n0 c0, .slice a1 n1 c1] w fun e w' => e = .returned (.bool true) ∧ Below w.heap.size w w' := by
  have HB := Lib.hid (big_any a0 a1 n0 c0 n1 c1 h0.1 h1.1 w)
  have A0 := Lib.hid h0
  have A1 := Lib.hid h1
  clear h0 h1
  generalize isBig n0 n1 = bb at HB
  cases bb with
  | true =>
    go_enter Tryz.func3, Tryz.ntmps3
    go_wp2_with fail
    with_reducible refine HB.out.mono ?_
    rintro e w1 ⟨rfl, rfl⟩
    go_wp2_with fail
    go_ret
    exact ⟨rfl, Below.refl _ _⟩
  | false =>
  go_enter Tryz.func3, Tryz.ntmps3
  go_wp2_with fail
  with_reducible refine HB.out.mono ?_
  rintro e w0 ⟨rfl, rfl⟩
  have B0 := Lib.hid (Below.refl w.heap.size w)
  clear HB
  go_wp2_with fail
  with_reducible refine (dRenameFree_any a0 n0 c0 _ (A0.out.below B0.out)).mono ?_
  rintro e x1 ⟨⟨s, k, q, rfl, hs, hk, hq⟩, b1⟩
  have B1 := Lib.hid (B0.out.trans (b1.mono B0.out.size))
  clear b1 B0
  obtain ⟨n, b, hT, hn, hR⟩ := twn_rename s k q (by have := ab_of hs; omega)
  have HV := Lib.hid (And.intro hs (And.intro hk (And.intro hq (And.intro hn hR))))
  have RNi := Lib.hid (fun w => hT.2 w)
  have RNs := Lib.hid (fun w => hT.1 w)
  have hbb : (b != b) = false := by cases b <;> rfl
  clear hs hk hq hn hR hT
  go_wp2_with fail
  with_reducible refine (RNi.out _).mono ?_
  rintro e x2 ⟨rfl, b2⟩
  have B2 := Lib.hid (B1.out.trans (b2.mono B1.out.size))
  clear b2 B1
  go_wp2_with fail
  with_reducible refine (RNs.out _).mono ?_
  rintro e x3 ⟨rfl, b3⟩
  have B3 := Lib.hid (B2.out.trans (b3.mono B2.out.size))
  clear b3 B2
  go_upto_if 74 with fail
  go_cut [] from 74 to 74 (fun wx => wx = x3)
  case first =>
    go_wp2_with fail
    go_meet
    case rel => rfl
  case rest =>
    subst hcut
    obtain ⟨hs, hk, hq, hn, hR⟩ := HV.out
    obtain ⟨s', e', hz, hab⟩ := hs
    cases e'
    clear HV RNi RNs
    rename_i KK aK
    refine aK _ _ ?_
    exact nsI a0 n0 c0 a1 n1 c1 w _ A0 A1 B3 s k q n b hz hab hk hq hn hR _ _ _ _ _ _ _ _ _ _ _ _ _ _ _ _ _ _ _ _ _ _ _ _ _ _ _ _ _ _ _ _ _ _ _ _ _ _ _ _ _ _ _ _ _ _ _ _ _ _ _ _ _ _ _ _ _ _ _ _ _ _ _ _ _ _ _ _ _ _ _ _ _ _ _ _ _ _ _ _ _ _ _ _ _ _ _ _ _ _ _ _ _ _ _ _ _ _ _ _ _ _ _ _ _ _ _ _ _ _ _ _ _ _ _ _ _ _ _ _ _ _ _ _ _ _ _ _ _ _ _ _ _ _ _ _ _ _ _ _ _ _ _ _ _ _ _ _ _ _ _ _ _ _ _ _ _ _ _ _ _ _ _ _ _ _ _ _ _ _ _ _ _ _ _ _ _ _ _ _ _ _ _ _ _ _ _ _ _ _ _ _ _ _ _ _ _ _ _ _ _ _ _ _ _ _ _ _ _ _ _ _ _ _ _ _ _ _ _ _ _ _ _ _ _ _ _ _ _ _ _ _ _ _ _ _ _ _ _ _ _ _ _ _ _ _ _ _ _ _ _ _ _ _ _ _ _ _ _ _ _ _ _ _ _ _ _ _ _ _ _ _ _ _ _ _ _ _ _ _ _ _ _ _ _ _ _ _ _ _ _ _ _ _ _ _ _ _ _
end Go.Proofs.YtpabmidjfpabdaaGreat.T1
