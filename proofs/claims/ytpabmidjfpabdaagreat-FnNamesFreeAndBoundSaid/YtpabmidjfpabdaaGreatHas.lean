/- Texts of the proof, put together: Kind, CKindOf, Gf. No conditions. -/
import Derived.Test.YtpabmidjfpabdaaGreatHab
import Derived.Test.YtpabmidjfpabdaaGreatHaq
import Derived.Test.YtpabmidjfpabdaaGreatHar
import Derived.Laws.IdiomStrings
import Derived.Test.YtpabmidjfpabdaaGreatProg
import Derived.WalkKit
import Derived.ProofKit
import Derived.OpenShut
import Derived.ShutString
import Derived.ChangeOld
import Derived.Below
import Derived.Deep.LoopGhost

/- The kind of a sign, asked through its interface; one byte as a text. -/
namespace Go.Proofs.YtpabmidjfpabdaaGreat.T1
open Go.RowKit
set_option maxRecDepth 100000

/-- What is known of a sign whose kind is asked. -/
structure KindFact (T : TypeId) (V : Value) (k : ByteArray) : Prop where
  pf : ∃ (F : FuncId) (R : Value), (∀ n w, (method (n + 1) T V "loop.example/g01175/impl.kind").run Tryz.prog w = .ok (F, R) w) ∧ (∀ n w, (nilAhead (n + 1) T V "loop.example/g01175/impl.kind").run Tryz.prog w = .ok (some false) w) ∧ (∀ args w, (callFunc F args).run Tryz.prog w = .ok (.enter F args) w) ∧ ∀ w, Calls Tryz.prog F #[R] w fun e w' => e = .returned (.string k) ∧ Below w.heap.size w w'

theorem mk_nothing (n : Nat) (w : World) : (method (n + 1) 100 (.agg #[]) "loop.example/g01175/impl.kind").run Tryz.prog w = .ok (111, .agg #[]) w := by kernel_rfl
theorem nk_nothing (n : Nat) (w : World) : (nilAhead (n + 1) 100 (.agg #[]) "loop.example/g01175/impl.kind").run Tryz.prog w = .ok (some false) w := by kernel_rfl
theorem ck_nothing (args : Array Value) (w : World) : (callFunc 111 args).run Tryz.prog w = .ok (.enter 111 args) w := by kernel_rfl
theorem kd_nothing (w : World) : Calls Tryz.prog 111 #[.agg #[]] w fun e w' => e = .returned (.string (one 48)) ∧ Below w.heap.size w w' := by
  go_enter Tryz.func111, Tryz.ntmps111
  go_wp2_with fail
  go_ret
  exact ⟨rfl, by first | exact Below.refl _ _ | exact (Below.refl _ _).alloc (Nat.le_refl _) _⟩
theorem mk_send (n0 : Int) (n1 : Int) (t2 : TypeId) (v2 : Value) (n : Nat) (w : World) : (method (n + 1) 109 (.agg #[.int .u8 n0, .int .u8 n1, .iface t2 v2]) "loop.example/g01175/impl.kind").run Tryz.prog w = .ok (116, .agg #[.int .u8 n0, .int .u8 n1, .iface t2 v2]) w := by kernel_rfl
theorem nk_send (n0 : Int) (n1 : Int) (t2 : TypeId) (v2 : Value) (n : Nat) (w : World) : (nilAhead (n + 1) 109 (.agg #[.int .u8 n0, .int .u8 n1, .iface t2 v2]) "loop.example/g01175/impl.kind").run Tryz.prog w = .ok (some false) w := by kernel_rfl
theorem ck_send (args : Array Value) (w : World) : (callFunc 116 args).run Tryz.prog w = .ok (.enter 116 args) w := by kernel_rfl
theorem kd_send (n0 : Int) (n1 : Int) (t2 : TypeId) (v2 : Value) (w : World) : Calls Tryz.prog 116 #[.agg #[.int .u8 n0, .int .u8 n1, .iface t2 v2]] w fun e w' => e = .returned (.string (one 33)) ∧ Below w.heap.size w w' := by
  go_enter Tryz.func116, Tryz.ntmps116
  go_wp2_with fail
  go_ret
  exact ⟨rfl, by first | exact Below.refl _ _ | exact (Below.refl _ _).alloc (Nat.le_refl _) _⟩
theorem mk_receive (n0 : Int) (n1 : Int) (t2 : TypeId) (v2 : Value) (n : Nat) (w : World) : (method (n + 1) 105 (.agg #[.int .u8 n0, .int .u8 n1, .iface t2 v2]) "loop.example/g01175/impl.kind").run Tryz.prog w = .ok (114, .agg #[.int .u8 n0, .int .u8 n1, .iface t2 v2]) w := by kernel_rfl
theorem nk_receive (n0 : Int) (n1 : Int) (t2 : TypeId) (v2 : Value) (n : Nat) (w : World) : (nilAhead (n + 1) 105 (.agg #[.int .u8 n0, .int .u8 n1, .iface t2 v2]) "loop.example/g01175/impl.kind").run Tryz.prog w = .ok (some false) w := by kernel_rfl
theorem ck_receive (args : Array Value) (w : World) : (callFunc 114 args).run Tryz.prog w = .ok (.enter 114 args) w := by kernel_rfl
theorem kd_receive (n0 : Int) (n1 : Int) (t2 : TypeId) (v2 : Value) (w : World) : Calls Tryz.prog 114 #[.agg #[.int .u8 n0, .int .u8 n1, .iface t2 v2]] w fun e w' => e = .returned (.string (one 63)) ∧ Below w.heap.size w w' := by
  go_enter Tryz.func114, Tryz.ntmps114
  go_wp2_with fail
  go_ret
  exact ⟨rfl, by first | exact Below.refl _ _ | exact (Below.refl _ _).alloc (Nat.le_refl _) _⟩
theorem mk_match (n0 : Int) (n1 : Int) (t2 : TypeId) (v2 : Value) (n : Nat) (w : World) : (method (n + 1) 111 (.agg #[.int .u8 n0, .int .u8 n1, .iface t2 v2]) "loop.example/g01175/impl.kind").run Tryz.prog w = .ok (117, .agg #[.int .u8 n0, .int .u8 n1, .iface t2 v2]) w := by kernel_rfl
theorem nk_match (n0 : Int) (n1 : Int) (t2 : TypeId) (v2 : Value) (n : Nat) (w : World) : (nilAhead (n + 1) 111 (.agg #[.int .u8 n0, .int .u8 n1, .iface t2 v2]) "loop.example/g01175/impl.kind").run Tryz.prog w = .ok (some false) w := by kernel_rfl
theorem ck_match (args : Array Value) (w : World) : (callFunc 117 args).run Tryz.prog w = .ok (.enter 117 args) w := by kernel_rfl
theorem kd_match (n0 : Int) (n1 : Int) (t2 : TypeId) (v2 : Value) (w : World) : Calls Tryz.prog 117 #[.agg #[.int .u8 n0, .int .u8 n1, .iface t2 v2]] w fun e w' => e = .returned (.string (one 61)) ∧ Below w.heap.size w w' := by
  go_enter Tryz.func117, Tryz.ntmps117
  go_wp2_with fail
  go_ret
  exact ⟨rfl, by first | exact Below.refl _ _ | exact (Below.refl _ _).alloc (Nat.le_refl _) _⟩
theorem mk_own (n0 : Int) (t1 : TypeId) (v1 : Value) (n : Nat) (w : World) : (method (n + 1) 107 (.agg #[.int .u8 n0, .iface t1 v1]) "loop.example/g01175/impl.kind").run Tryz.prog w = .ok (115, .agg #[.int .u8 n0, .iface t1 v1]) w := by kernel_rfl
theorem nk_own (n0 : Int) (t1 : TypeId) (v1 : Value) (n : Nat) (w : World) : (nilAhead (n + 1) 107 (.agg #[.int .u8 n0, .iface t1 v1]) "loop.example/g01175/impl.kind").run Tryz.prog w = .ok (some false) w := by kernel_rfl
theorem ck_own (args : Array Value) (w : World) : (callFunc 115 args).run Tryz.prog w = .ok (.enter 115 args) w := by kernel_rfl
theorem kd_own (n0 : Int) (t1 : TypeId) (v1 : Value) (w : World) : Calls Tryz.prog 115 #[.agg #[.int .u8 n0, .iface t1 v1]] w fun e w' => e = .returned (.string (one 35)) ∧ Below w.heap.size w w' := by
  go_enter Tryz.func115, Tryz.ntmps115
  go_wp2_with fail
  go_ret
  exact ⟨rfl, by first | exact Below.refl _ _ | exact (Below.refl _ _).alloc (Nat.le_refl _) _⟩
theorem mk_silent (t0 : TypeId) (v0 : Value) (n : Nat) (w : World) : (method (n + 1) 113 (.agg #[.iface t0 v0]) "loop.example/g01175/impl.kind").run Tryz.prog w = .ok (118, .agg #[.iface t0 v0]) w := by kernel_rfl
theorem nk_silent (t0 : TypeId) (v0 : Value) (n : Nat) (w : World) : (nilAhead (n + 1) 113 (.agg #[.iface t0 v0]) "loop.example/g01175/impl.kind").run Tryz.prog w = .ok (some false) w := by kernel_rfl
theorem ck_silent (args : Array Value) (w : World) : (callFunc 118 args).run Tryz.prog w = .ok (.enter 118 args) w := by kernel_rfl
theorem kd_silent (t0 : TypeId) (v0 : Value) (w : World) : Calls Tryz.prog 118 #[.agg #[.iface t0 v0]] w fun e w' => e = .returned (.string (one 126)) ∧ Below w.heap.size w w' := by
  go_enter Tryz.func118, Tryz.ntmps118
  go_wp2_with fail
  go_ret
  exact ⟨rfl, by first | exact Below.refl _ _ | exact (Below.refl _ _).alloc (Nat.le_refl _) _⟩
theorem mk_repeat (t0 : TypeId) (v0 : Value) (n : Nat) (w : World) : (method (n + 1) 119 (.agg #[.iface t0 v0]) "loop.example/g01175/impl.kind").run Tryz.prog w = .ok (122, .agg #[.iface t0 v0]) w := by kernel_rfl
theorem nk_repeat (t0 : TypeId) (v0 : Value) (n : Nat) (w : World) : (nilAhead (n + 1) 119 (.agg #[.iface t0 v0]) "loop.example/g01175/impl.kind").run Tryz.prog w = .ok (some false) w := by kernel_rfl
theorem ck_repeat (args : Array Value) (w : World) : (callFunc 122 args).run Tryz.prog w = .ok (.enter 122 args) w := by kernel_rfl
theorem kd_repeat (t0 : TypeId) (v0 : Value) (w : World) : Calls Tryz.prog 122 #[.agg #[.iface t0 v0]] w fun e w' => e = .returned (.string (one 42)) ∧ Below w.heap.size w w' := by
  go_enter Tryz.func122, Tryz.ntmps122
  go_wp2_with fail
  go_ret
  exact ⟨rfl, by first | exact Below.refl _ _ | exact (Below.refl _ _).alloc (Nat.le_refl _) _⟩
theorem mk_choice (t0 : TypeId) (v0 : Value) (t1 : TypeId) (v1 : Value) (n : Nat) (w : World) : (method (n + 1) 117 (.agg #[.iface t0 v0, .iface t1 v1]) "loop.example/g01175/impl.kind").run Tryz.prog w = .ok (120, .agg #[.iface t0 v0, .iface t1 v1]) w := by kernel_rfl
theorem nk_choice (t0 : TypeId) (v0 : Value) (t1 : TypeId) (v1 : Value) (n : Nat) (w : World) : (nilAhead (n + 1) 117 (.agg #[.iface t0 v0, .iface t1 v1]) "loop.example/g01175/impl.kind").run Tryz.prog w = .ok (some false) w := by kernel_rfl
theorem ck_choice (args : Array Value) (w : World) : (callFunc 120 args).run Tryz.prog w = .ok (.enter 120 args) w := by kernel_rfl
theorem kd_choice (t0 : TypeId) (v0 : Value) (t1 : TypeId) (v1 : Value) (w : World) : Calls Tryz.prog 120 #[.agg #[.iface t0 v0, .iface t1 v1]] w fun e w' => e = .returned (.string (one 43)) ∧ Below w.heap.size w w' := by
  go_enter Tryz.func120, Tryz.ntmps120
  go_wp2_with fail
  go_ret
  exact ⟨rfl, by first | exact Below.refl _ _ | exact (Below.refl _ _).alloc (Nat.le_refl _) _⟩
theorem mk_beside (t0 : TypeId) (v0 : Value) (t1 : TypeId) (v1 : Value) (n : Nat) (w : World) : (method (n + 1) 118 (.agg #[.iface t0 v0, .iface t1 v1]) "loop.example/g01175/impl.kind").run Tryz.prog w = .ok (121, .agg #[.iface t0 v0, .iface t1 v1]) w := by kernel_rfl
theorem nk_beside (t0 : TypeId) (v0 : Value) (t1 : TypeId) (v1 : Value) (n : Nat) (w : World) : (nilAhead (n + 1) 118 (.agg #[.iface t0 v0, .iface t1 v1]) "loop.example/g01175/impl.kind").run Tryz.prog w = .ok (some false) w := by kernel_rfl
theorem ck_beside (args : Array Value) (w : World) : (callFunc 121 args).run Tryz.prog w = .ok (.enter 121 args) w := by kernel_rfl
theorem kd_beside (t0 : TypeId) (v0 : Value) (t1 : TypeId) (v1 : Value) (w : World) : Calls Tryz.prog 121 #[.agg #[.iface t0 v0, .iface t1 v1]] w fun e w' => e = .returned (.string (one 38)) ∧ Below w.heap.size w w' := by
  go_enter Tryz.func121, Tryz.ntmps121
  go_wp2_with fail
  go_ret
  exact ⟨rfl, by first | exact Below.refl _ _ | exact (Below.refl _ _).alloc (Nat.le_refl _) _⟩
theorem kind_fact (t : Tm) : KindFact (tyOf t) (pay t) (one t.kind) := by
  cases t with
  | nil => exact ⟨_, _, mk_nothing, nk_nothing, ck_nothing, kd_nothing⟩
  | snd a b p => exact ⟨_, _, mk_send _ _ _ _, nk_send _ _ _ _, ck_send, kd_send _ _ _ _⟩
  | rcv a b p => exact ⟨_, _, mk_receive _ _ _ _, nk_receive _ _ _ _, ck_receive, kd_receive _ _ _ _⟩
  | tau p => exact ⟨_, _, mk_silent _ _, nk_silent _ _, ck_silent, kd_silent _ _⟩
  | sum p q => exact ⟨_, _, mk_choice _ _ _ _, nk_choice _ _ _ _, ck_choice, kd_choice _ _ _ _⟩
  | par p q => exact ⟨_, _, mk_beside _ _ _ _, nk_beside _ _ _ _, ck_beside, kd_beside _ _ _ _⟩
  | own x p => exact ⟨_, _, mk_own _ _ _, nk_own _ _ _, ck_own, kd_own _ _ _⟩
  | mat a b p => exact ⟨_, _, mk_match _ _ _ _, nk_match _ _ _ _, ck_match, kd_match _ _ _ _⟩
  | rep p => exact ⟨_, _, mk_repeat _ _, nk_repeat _ _, ck_repeat, kd_repeat _ _⟩

end Go.Proofs.YtpabmidjfpabdaaGreat.T1

/- What KindOf answers on both sides. No conditions. -/
namespace Go.Proofs.YtpabmidjfpabdaaGreat
namespace LawKindOf
open Go.ChangeShapes Go.WideShapes Go.ChangeAt Go.RowKit Go.Proofs.YtpabmidjfpabdaaGreat.T1
open Go.ChangeMaps (open_string shut_string)
set_option linter.unusedVariables false

theorem conv1 (k : UInt8) (w : World) : (convert 22 9 (.slice (some ⟨w.heap.size, 0, none⟩) 1 1)).run Tryz.prog (w.alloc (.cells #[.int .u8 (k.toNat : Int)] 5)) = .ok (.string (one k)) (w.alloc (.cells #[.int .u8 (k.toNat : Int)] 5)) :=
  run_convert_bytes_back _ 22 9 5 _ 1 [k] Tryz.underlying22 Tryz.underlying5 Tryz.underlying9 (fun j hj => by
    have : j = 0 := by simp at hj; omega
    subst this
    rw [show (⟨w.heap.size, 0, none⟩ : Addr).add 0 = ⟨w.heap.size, 0, none⟩ from rfl, World.cell?_alloc_new]; rfl)

end LawKindOf
end Go.Proofs.YtpabmidjfpabdaaGreat

/- Texts that are spoilt. No conditions. -/
namespace Go.Proofs.YtpabmidjfpabdaaGreat.T1
open Go.RowKit
set_option maxRecDepth 100000
set_option linter.unusedVariables false
set_option linter.unusedSimpArgs false

theorem ab_ext {n : Nat} {s : ByteArray} (h : Ab n (.string s)) (a b m : Nat) (hm : b ≤ a + m) : Ab m (.string (s.extract a b)) := by
  obtain ⟨_, e, h1, h2⟩ := h
  cases e
  refine ⟨_, rfl, by rw [ByteArray.size_extract]; omega, fun x hx => h2 x ?_⟩
  rw [ByteArray.data_extract, Array.toList_extract] at hx
  exact List.mem_of_mem_drop (List.mem_of_mem_take hx)
theorem ab_one {ch : UInt8} (h : AB ch = true) : Ab 1 (.string (one ch)) := ⟨_, rfl, Nat.le_refl _, fun b hb => by
  have : b = ch := by simpa [one] using hb
  subst this; exact h⟩
set_option maxHeartbeats 4000000 in
theorem spoilt_any (c k M : Nat) (s0 wi : ByteArray) (hk : k ≤ 500000) (hM : M ≤ 1000) (hs0 : Ab M (.string s0)) (hw0 : 1 ≤ wi.size) (hw1 : wi.size ≤ 100) (hwa : ∀ b ∈ wi.data.toList, AB b = true) (w : World) (hC : Cur w c k) :
    Calls Tryz.prog 51 #[.pointer (some ⟨c, 0, none⟩), .string s0, .string wi] w (Dr (Ab (M + 2)) c (k + 20) w) := by
  have HC := Lib.hid hC
  have HS := Lib.hid hs0
  have HW := Lib.hid (And.intro hw0 (And.intro hw1 hwa))
  have HK := Lib.hid (And.intro hk hM)
  clear hC hs0 hw0 hw1 hwa hk hM
  go_enter Tryz.func51, Tryz.ntmps51
  go_wp2_with fail
  refine (pick_lt c k 2 (by decide) (by have := HK.out; omega) (by decide) _ HC.out).mono ?_
  rintro e w1 ⟨v, rfl, ⟨r1, l1, rfl⟩, c1, o1⟩
  have C1 := Lib.hid c1
  have O1 := Lib.hid o1
  obtain ⟨n, hn⟩ : ∃ n, n = 1 + r1 := ⟨_, rfl⟩
  have hw1 : IntKind.i64.wrap (1 + (r1 : Int)) = (n : Int) := by rw [IntKind.wrap_i64] <;> omega
  have HN := Lib.hid (show n ≤ 2 by omega)
  clear c1 o1 l1 hn
  go_wp2_with fail
  go_loopg [1, 7] n (fun g s1 s7 wr => ∃ s : ByteArray, s1 = .string s ∧ s7 = .int .i64 (g : Int) ∧ Hid (g ≤ 2) ∧ Hid (Ab (M + 2 - g) (.string s)) ∧ Hid (Cur wr c (k + 2 + 6 * (2 - g))) ∧ Hid (Only c w wr))
  case atStart => exact ⟨s0, rfl, rfl, HN, ab_mono HS.out (by have := HN.out; omega), C1.out.mono (by omega), O1⟩
  case round =>
    obtain ⟨s, rfl, rfl, hg, hs, hC, hO⟩ := hrel
    by_cases hlt : 0 < gk
    · have d1 : decide (0 < (gk : Int)) = true := by simp; omega
      by_cases hz : 0 < s.size
      · have d2 : decide (0 < (s.size : Int)) = true := by simp; omega
        go_wp2_with fail
        refine (pick_lt c _ s.size hz (by have := HK.out; have := hg.out; omega) (by have := ab_of hs.out; have := HK.out; omega) _ hC.out).mono ?_
        rintro e w2 ⟨v, rfl, ⟨r2, l2, rfl⟩, c2, o2⟩
        have C2 := Lib.hid c2
        have O2 := Lib.hid (hO.out.trans o2)
        have R2 := Lib.hid l2
        clear c2 o2 l2 hC hO
        go_wp2_with fail
        refine (pick_lt c _ wi.size HW.out.1 (by have := HK.out; have := hg.out; omega) (by have := HW.out; omega) _ C2.out).mono ?_
        rintro e w3 ⟨v, rfl, ⟨r3, l3, rfl⟩, c3, o3⟩
        have C3 := Lib.hid c3
        have O3 := Lib.hid (O2.out.trans o3)
        have hch : AB (wi[r3]'l3) = true := HW.out.2.2 _ (by rw [ByteArray.getElem_eq_getElem_data]; exact Array.getElem_mem_toList _)
        have hcv := LawKindOf.conv1 (wi[r3]'l3) w3
        have l3' : (r3 : Int) < (wi.size : Int) := by omega
        have HCH := Lib.hid hch
        clear c3 o3 hch C2 O2
        go_wp2_with fail
        refine (pick_lt c _ 3 (by decide) (by have := HK.out; have := hg.out; omega) (by decide) _ (C3.out.below ((Below.refl _ _).alloc (Nat.le_refl _) _))).mono ?_
        rintro e w4 ⟨v, rfl, ⟨r4, l4, rfl⟩, c4, o4⟩
        obtain ⟨ch, hch⟩ : ∃ ch, ch = wi[r3]'l3 := ⟨_, rfl⟩
        rw [← hch]
        rw [← hch] at HCH
        have C4 := Lib.hid (c4.mono (show _ ≤ k + 2 + 6 * (2 - (gk - 1)) by have := hg.out; omega))
        have O4 := Lib.hid ((O3.out.alloc _).trans o4)
        clear c4 o4 C3 O3 hcv l3' hch
        have hz2 : s.size ≤ 1002 := by have := ab_of hs.out; have := HK.out; omega
        have hr2 : r2 ≤ s.size := Nat.le_of_lt R2.out
        have hr2' : (r2 : Int) ≤ (s.size : Int) := by omega
        have hr3' : (r2 : Int) + 1 ≤ (s.size : Int) := by have := R2.out; omega
        have hwi : IntKind.i64.wrap ((r2 : Int) + 1) = ((r2 + 1 : Nat) : Int) := by rw [IntKind.wrap_i64] <;> omega
        have hwg : IntKind.i64.wrap ((gk : Int) - 1) = ((gk - 1 : Nat) : Int) := by have := hg.out; rw [IntKind.wrap_i64] <;> omega
        have hch1 : (one ch).size = 1 := rfl
        have e1 : (s.extract 0 r2).size = r2 := by rw [ByteArray.size_extract]; omega
        have e2 : (s.extract r2 s.size).size = s.size - r2 := by rw [ByteArray.size_extract]; omega
        have e3 : (s.extract (r2 + 1) s.size).size = s.size - (r2 + 1) := by rw [ByteArray.size_extract]; omega
        rcases (show r4 = 0 ∨ r4 = 1 ∨ r4 = 2 from by omega) with rfl | rfl | rfl
        · go_wp2_with fail
          go_quiet (fail)
          go_wp2_with fail
          go_roundg (gk - 1)
          case rel => exact ⟨_, rfl, rfl, Lib.hid (by have := hg.out; omega), ab_mono (ab_app (ab_app (ab_ext hs.out 0 r2 r2 (by omega)) (ab_one HCH.out)) (ab_ext hs.out r2 s.size (s.size - r2) (by omega))) (by have := ab_of hs.out; have := hg.out; omega), C4.out.below (below_drewN' (Below.refl _ _) _), O4.out.drewN _⟩
          case measure => omega
        · go_wp2_with fail
          go_quiet (fail)
          go_wp2_with fail
          go_roundg (gk - 1)
          case rel => exact ⟨_, rfl, rfl, Lib.hid (by have := hg.out; omega), ab_mono (ab_app (ab_app (ab_ext hs.out 0 r2 r2 (by omega)) (ab_one HCH.out)) (ab_ext hs.out (r2 + 1) s.size (s.size - r2) (by omega))) (by have := ab_of hs.out; have := hg.out; omega), C4.out.below (below_drewN' (Below.refl _ _) _), O4.out.drewN _⟩
          case measure => omega
        · go_wp2_with fail
          go_quiet (fail)
          go_wp2_with fail
          go_roundg (gk - 1)
          case rel => exact ⟨_, rfl, rfl, Lib.hid (by have := hg.out; omega), ab_mono (ab_app (ab_ext hs.out 0 r2 r2 (by omega)) (ab_ext hs.out (r2 + 1) s.size (s.size - r2) (by omega))) (by have := ab_of hs.out; have := hg.out; omega), C4.out.below (below_drewN' (Below.refl _ _) _), O4.out.drewN _⟩
          case measure => omega
      · have d2 : decide (0 < s.size) = false := decide_eq_false hz
        clear hz
        go_wp2_with fail
        go_ret
        exact ⟨.string s, rfl, ab_mono hs.out (by omega), hC.out.mono (by have := hg.out; omega), hO.out⟩
    · have d1 : decide (0 < gk) = false := decide_eq_false hlt
      clear hlt
      go_wp2_with fail
      go_ret
      exact ⟨.string s, rfl, ab_mono hs.out (by omega), hC.out.mono (by have := hg.out; omega), hO.out⟩
end Go.Proofs.YtpabmidjfpabdaaGreat.T1
