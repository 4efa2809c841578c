/- Texts of the proof, put together: Pa, Ge, CKindOf, Gf, Gg, Gh, Gi. No conditions. -/
import Derived.Test.YtmfmagfgcdaeeaaGreatHaj
import Derived.Test.YtmfmagfgcdaeeaaGreatHaq
import Derived.Lib.OthersKept
import Derived.Deep.LoopGhost
import Derived.Laws.RangeAny
import Derived.Test.YtmfmagfgcdaeeaaGreatProg
import Derived.WalkKit
import Derived.ProofKit
import Derived.OpenShut
import Derived.ShutString
import Derived.ChangeOld
import Derived.Below

/- The part that a step of a path tells, in the program. -/
namespace Go.Proofs.YtmfmagfgcdaeeaaGreat.T1
open Go.RowKit
set_option maxRecDepth 100000

/-- What is left by a search for a subterm. -/
def SubPost (o : Option Tm) (w : World) (e : Ending) (w' : World) : Prop :=
  ((∃ p, o = some p ∧ e = .returned (.tuple #[.iface (tyOf p) (pay p), .bool true])) ∨ (o = none ∧ e = .returned (.tuple #[.nilIface, .bool false]))) ∧ Below w.heap.size w w'
theorem SubPost.no {w : World} {e : Ending} {w' : World} {o : Option Tm} (ho : o = none) (h : e = .returned (.tuple #[.nilIface, .bool false]) ∧ Below w.heap.size w w') : SubPost o w e w' := ⟨.inr ⟨ho, h.1⟩, h.2⟩
theorem SubPost.yes {w : World} {e : Ending} {w' : World} {o : Option Tm} {p : Tm} (ho : o = some p) (h : e = .returned (.tuple #[.iface (tyOf p) (pay p), .bool true]) ∧ Below w.heap.size w w') : SubPost o w e w' := ⟨.inl ⟨p, ho, h.1⟩, h.2⟩
end Go.Proofs.YtmfmagfgcdaeeaaGreat.T1

/- The processes that are drawn: texts over few letters, of bounded length. No conditions. -/
namespace Go.Proofs.YtmfmagfgcdaeeaaGreat.T1
open Go.RowKit
set_option maxRecDepth 100000
set_option linter.unusedVariables false
set_option linter.unusedSimpArgs false

theorem ab_mono {n m : Nat} {v : Value} (h : Ab n v) (hm : n ≤ m) : Ab m v := by
  obtain ⟨s, e, h1, h2⟩ := h
  exact ⟨s, e, by omega, h2⟩
theorem ab_app {n m : Nat} {s t : ByteArray} (h : Ab n (.string s)) (k : Ab m (.string t)) : Ab (n + m) (.string (s ++ t)) := by
  obtain ⟨_, e, h1, h2⟩ := h
  obtain ⟨_, e2, k1, k2⟩ := k
  cases e; cases e2
  refine ⟨_, rfl, by rw [ByteArray.size_append]; omega, fun b hb => ?_⟩
  rw [ByteArray.data_append, Array.toList_append, List.mem_append] at hb
  rcases hb with hb | hb
  · exact h2 b hb
  · exact k2 b hb
theorem ab_lit (s : ByteArray) (n : Nat) (hn : s.size = n) (h : s.data.toList.all AB = true) : Ab n (.string s) := ⟨s, rfl, Nat.le_of_eq hn, fun b hb => List.all_eq_true.1 h b hb⟩
theorem ab_nm {ch : UInt8} (h : nm5 ch = true) : Ab 1 (.string (one ch)) := ⟨_, rfl, Nat.le_refl _, fun b hb => by
  have : b = ch := by simpa [one] using hb
  subst this; unfold AB; rw [h]; rfl⟩
theorem ab_of {n : Nat} {s : ByteArray} (h : Ab n (.string s)) : s.size ≤ n := by obtain ⟨_, e, h, _⟩ := h; cases e; exact h

def SureT (n : Nat) : Prop := ∀ (c k : Nat) (b : Bool) (w : World), k + 30 * n ≤ 100000 → Cur w c k → Calls Tryz.prog 134 #[.pointer (some ⟨c, 0, none⟩), .int .i64 (n : Int), .bool b] w (Dr (Ab (6 * n)) c (k + 30 * n) w)
def GrdT (n : Nat) : Prop := ∀ (c k : Nat) (b : Bool) (w : World), k + 30 * n + 12 ≤ 100000 → Cur w c k → Calls Tryz.prog 156 #[.pointer (some ⟨c, 0, none⟩), .int .i64 (n : Int), .bool b] w (Dr (Ab (6 * n)) c (k + (30 * n + 12)) w)

set_option maxHeartbeats 4000000 in
theorem sure_low (n : Nat) (h1 : 1 ≤ n) (h2 : n < 2) : SureT n := by
  intro c k b w hk hC
  have HC := Lib.hid hC
  have HK := Lib.hid hk
  have C0 := HC
  have O0 : Hid (Only c w w) := Only.refl c w
  clear hC hk
  have hd : decide ((n : Int) < 2) = true := by simp; omega
  have HN := Lib.hid h1
  clear h1 h2
  go_enter Tryz.func134, Tryz.ntmps134
  go_wp2_with fail
  go_ret
  exact ⟨.string ⟨#[48]⟩, rfl, ab_mono (ab_lit ⟨#[48]⟩ 1 rfl (by decide)) (by have := HN.out; omega), HC.out.mono (by omega), O0.out⟩

set_option maxHeartbeats 8000000 in
theorem sure_step (n m : Nat) (hn : 2 ≤ n) (hm : m = n - 1) (hs : ∀ j, 1 ≤ j → j < n → SureT j) (hg : ∀ j, 1 ≤ j → j < n → GrdT j) (hn25 : n ≤ 1000) : SureT n := by
  intro c k b w hk hC
  have HC := Lib.hid hC
  have HK := Lib.hid hk
  have C0 := HC
  have O0 : Hid (Only c w w) := Only.refl c w
  clear hC hk
  have hd : decide ((n : Int) < 2) = false := by simp; omega
  have hw1 : IntKind.i64.wrap ((n : Int) - 1) = (m : Int) := by rw [IntKind.wrap_i64] <;> omega
  have HM := Lib.hid (And.intro hm (And.intro hn hn25))
  have HS1 := Lib.hid (hs m (by omega) (by omega))
  have HSA := Lib.hid hs
  have HGA := Lib.hid hg
  clear hs hg hm hn hn25
  go_enter Tryz.func134, Tryz.ntmps134
  go_wp2_with fail
  refine (pick_lt c k 16 (by decide) (by have q0 := HK.out; have q1 := HM.out; omega) (by decide) _ C0.out).mono ?_
  rintro e w1 ⟨v, rfl, ⟨r1, l1, rfl⟩, c1, o1⟩
  have C1 := Lib.hid c1
  have O1 := Lib.hid (O0.out.trans o1)
  have R1 := Lib.hid l1
  clear l1
  clear c1 o1
  rcases (show (r1 < 4) ∨ (4 ≤ r1 ∧ r1 < 8) ∨ (r1 = 8) ∨ (8 < r1 ∧ r1 < 12 ∧ 2 < n) ∨ (8 < r1 ∧ r1 < 12 ∧ ¬ 2 < n) ∨ (r1 = 12) ∨ (r1 = 13) ∨ (r1 = 14 ∧ 2 < n) ∨ (r1 = 14 ∧ ¬ 2 < n) ∨ (r1 = 15 ∧ 2 < n) ∨ (r1 = 15 ∧ ¬ 2 < n) from by have := R1.out; have := HM.out; omega) with hb | hb | hb | hb | hb | hb | hb | hb | hb | hb | hb
  · have HB := Lib.hid hb
    have : decide ((r1 : Int) < 4) = true := by simp; omega
    clear hb
    go_wp2_with fail
    refine (drName_any c (k + 2) (by have q0 := HK.out; have q1 := HM.out; have q2 := R1.out; have q3 := HB.out; omega) _ C1.out).mono ?_
    rintro e w2 ⟨v, rfl, ⟨x2, n2, rfl⟩, c2, o2⟩
    have C2 := Lib.hid c2
    have O2 := Lib.hid (O1.out.trans o2)
    have N2 := Lib.hid n2
    have m2 : (one x2).size = 1 := rfl
    clear n2
    clear c2 o2
    go_wp2_with fail
    refine (drName_any c ((k + 2) + 2) (by have q0 := HK.out; have q1 := HM.out; have q2 := R1.out; have q3 := HB.out; omega) _ C2.out).mono ?_
    rintro e w3 ⟨v, rfl, ⟨x3, n3, rfl⟩, c3, o3⟩
    have C3 := Lib.hid c3
    have O3 := Lib.hid (O2.out.trans o3)
    have N3 := Lib.hid n3
    have m3 : (one x3).size = 1 := rfl
    clear n3
    clear c3 o3
    go_wp2_with fail
    refine (HS1.out c (((k + 2) + 2) + 2) b _ (by have q0 := HK.out; have q1 := HM.out; have q2 := R1.out; have q3 := HB.out; omega) C3.out).mono ?_
    rintro e w4 ⟨v, rfl, A4, c4, o4⟩
    have C4 := Lib.hid c4
    have O4 := Lib.hid (O3.out.trans o4)
    have S4 := Lib.hid A4
    obtain ⟨s4, rfl, _, _⟩ := A4
    have z4 : s4.size ≤ 100000 := by have := ab_of S4.out; have := HK.out; have := HM.out; omega
    clear c4 o4
    go_wp2_with fail
    go_ret
    exact ⟨.string ((((one x2 ++ ⟨#[33]⟩) ++ one x3) ++ ⟨#[46]⟩) ++ s4), rfl, ab_mono (ab_app (ab_app (ab_app (ab_app (ab_nm N2.out) (ab_lit ⟨#[33]⟩ 1 rfl (by decide))) (ab_nm N3.out)) (ab_lit ⟨#[46]⟩ 1 rfl (by decide))) S4.out) (by have q0 := HK.out; have q1 := HM.out; have q2 := R1.out; have q3 := HB.out; omega), C4.out.mono (by have q0 := HK.out; have q1 := HM.out; have q2 := R1.out; have q3 := HB.out; omega), O4.out⟩
  · have HB := Lib.hid hb
    have : decide ((r1 : Int) < 4) = false := by simp; omega
    have : decide ((r1 : Int) < 8) = true := by simp; omega
    clear hb
    go_wp2_with fail
    refine (drName_any c (k + 2) (by have q0 := HK.out; have q1 := HM.out; have q2 := R1.out; have q3 := HB.out; omega) _ C1.out).mono ?_
    rintro e w2 ⟨v, rfl, ⟨x2, n2, rfl⟩, c2, o2⟩
    have C2 := Lib.hid c2
    have O2 := Lib.hid (O1.out.trans o2)
    have N2 := Lib.hid n2
    have m2 : (one x2).size = 1 := rfl
    clear n2
    clear c2 o2
    go_wp2_with fail
    refine (drName_any c ((k + 2) + 2) (by have q0 := HK.out; have q1 := HM.out; have q2 := R1.out; have q3 := HB.out; omega) _ C2.out).mono ?_
    rintro e w3 ⟨v, rfl, ⟨x3, n3, rfl⟩, c3, o3⟩
    have C3 := Lib.hid c3
    have O3 := Lib.hid (O2.out.trans o3)
    have N3 := Lib.hid n3
    have m3 : (one x3).size = 1 := rfl
    clear n3
    clear c3 o3
    go_wp2_with fail
    refine (HS1.out c (((k + 2) + 2) + 2) b _ (by have q0 := HK.out; have q1 := HM.out; have q2 := R1.out; have q3 := HB.out; omega) C3.out).mono ?_
    rintro e w4 ⟨v, rfl, A4, c4, o4⟩
    have C4 := Lib.hid c4
    have O4 := Lib.hid (O3.out.trans o4)
    have S4 := Lib.hid A4
    obtain ⟨s4, rfl, _, _⟩ := A4
    have z4 : s4.size ≤ 100000 := by have := ab_of S4.out; have := HK.out; have := HM.out; omega
    clear c4 o4
    go_wp2_with fail
    go_ret
    exact ⟨.string ((((one x2 ++ ⟨#[63]⟩) ++ one x3) ++ ⟨#[46]⟩) ++ s4), rfl, ab_mono (ab_app (ab_app (ab_app (ab_app (ab_nm N2.out) (ab_lit ⟨#[63]⟩ 1 rfl (by decide))) (ab_nm N3.out)) (ab_lit ⟨#[46]⟩ 1 rfl (by decide))) S4.out) (by have q0 := HK.out; have q1 := HM.out; have q2 := R1.out; have q3 := HB.out; omega), C4.out.mono (by have q0 := HK.out; have q1 := HM.out; have q2 := R1.out; have q3 := HB.out; omega), O4.out⟩
  · have HB := Lib.hid hb
    have : decide ((r1 : Int) < 4) = false := by simp; omega
    have : decide ((r1 : Int) < 8) = false := by simp; omega
    have : ((r1 : Int) == 8) = true := by simp; omega
    clear hb
    go_wp2_with fail
    refine (HS1.out c (k + 2) b _ (by have q0 := HK.out; have q1 := HM.out; have q2 := R1.out; have q3 := HB.out; omega) C1.out).mono ?_
    rintro e w2 ⟨v, rfl, A2, c2, o2⟩
    have C2 := Lib.hid c2
    have O2 := Lib.hid (O1.out.trans o2)
    have S2 := Lib.hid A2
    obtain ⟨s2, rfl, _, _⟩ := A2
    have z2 : s2.size ≤ 100000 := by have := ab_of S2.out; have := HK.out; have := HM.out; omega
    clear c2 o2
    go_wp2_with fail
    go_ret
    exact ⟨.string (⟨#[126, 46]⟩ ++ s2), rfl, ab_mono (ab_app (ab_lit ⟨#[126, 46]⟩ 2 rfl (by decide)) S2.out) (by have q0 := HK.out; have q1 := HM.out; have q2 := R1.out; have q3 := HB.out; omega), C2.out.mono (by have q0 := HK.out; have q1 := HM.out; have q2 := R1.out; have q3 := HB.out; omega), O2.out⟩
  · have HB := Lib.hid hb
    have : decide ((r1 : Int) < 4) = false := by simp; omega
    have : decide ((r1 : Int) < 8) = false := by simp; omega
    have : ((r1 : Int) == 8) = false := by simp; omega
    have : decide ((r1 : Int) < 12) = true := by simp; omega
    have : decide (2 < (n : Int)) = true := by simp; omega
    clear hb
    obtain ⟨p, hp⟩ : ∃ p, p = n - 2 := ⟨_, rfl⟩
    have hw2 : IntKind.i64.wrap ((n : Int) - 2) = (p : Int) := by have q := HM.out; have q2 := HB.out; rw [IntKind.wrap_i64] <;> omega
    have HP := Lib.hid hp
    clear hp
    go_wp2_with fail
    refine (pick_lt c (k + 2) p (by have q0 := HK.out; have q1 := HM.out; have q2 := R1.out; have q3 := HB.out; have q4 := HP.out; omega) (by have q0 := HK.out; have q1 := HM.out; have q2 := R1.out; have q3 := HB.out; have q4 := HP.out; omega) (by have q0 := HK.out; have q1 := HM.out; have q2 := R1.out; have q3 := HB.out; have q4 := HP.out; omega) _ C1.out).mono ?_
    rintro e w2 ⟨v, rfl, ⟨r2, l2, rfl⟩, c2, o2⟩
    have C2 := Lib.hid c2
    have O2 := Lib.hid (O1.out.trans o2)
    have R2 := Lib.hid l2
    clear l2
    clear c2 o2
    obtain ⟨l, hl⟩ : ∃ l, l = 1 + r2 := ⟨_, rfl⟩
    obtain ⟨d, hd2⟩ : ∃ d, d = m - l := ⟨_, rfl⟩
    have HL := Lib.hid (And.intro hl hd2)
    have hw3 : IntKind.i64.wrap (1 + (r2 : Int)) = (l : Int) := by have q := HM.out; have q2 := R2.out; have q3 := HP.out; rw [IntKind.wrap_i64] <;> omega
    have hw4 : IntKind.i64.wrap ((m : Int) - (l : Int)) = (d : Int) := by have q := HM.out; have q2 := R2.out; have q3 := HP.out; have q4 := HB.out; rw [IntKind.wrap_i64] <;> omega
    have H1 := Lib.hid (HSA.out l (by have q0 := HK.out; have q1 := HM.out; have q2 := R1.out; have q3 := HB.out; have q4 := HP.out; have q5 := R2.out; have q6 := HL.out; omega) (by have q0 := HK.out; have q1 := HM.out; have q2 := R1.out; have q3 := HB.out; have q4 := HP.out; have q5 := R2.out; have q6 := HL.out; omega))
    have H2 := Lib.hid (HSA.out d (by have q0 := HK.out; have q1 := HM.out; have q2 := R1.out; have q3 := HB.out; have q4 := HP.out; have q5 := R2.out; have q6 := HL.out; omega) (by have q0 := HK.out; have q1 := HM.out; have q2 := R1.out; have q3 := HB.out; have q4 := HP.out; have q5 := R2.out; have q6 := HL.out; omega))
    clear hl hd2
    go_wp2_with fail
    refine (H1.out c ((k + 2) + 2) b _ (by have q0 := HK.out; have q1 := HM.out; have q2 := R1.out; have q3 := HB.out; have q4 := HP.out; have q5 := R2.out; have q6 := HL.out; omega) C2.out).mono ?_
    rintro e w3 ⟨v, rfl, A3, c3, o3⟩
    have C3 := Lib.hid c3
    have O3 := Lib.hid (O2.out.trans o3)
    have S3 := Lib.hid A3
    obtain ⟨s3, rfl, _, _⟩ := A3
    have z3 : s3.size ≤ 100000 := by have := ab_of S3.out; have := HK.out; have := HM.out; have := R2.out; have := HP.out; have := HL.out; omega
    clear c3 o3
    go_wp2_with fail
    refine (H2.out c (((k + 2) + 2) + 30 * l) b _ (by have q0 := HK.out; have q1 := HM.out; have q2 := R1.out; have q3 := HB.out; have q4 := HP.out; have q5 := R2.out; have q6 := HL.out; omega) C3.out).mono ?_
    rintro e w4 ⟨v, rfl, A4, c4, o4⟩
    have C4 := Lib.hid c4
    have O4 := Lib.hid (O3.out.trans o4)
    have S4 := Lib.hid A4
    obtain ⟨s4, rfl, _, _⟩ := A4
    have z4 : s4.size ≤ 100000 := by have := ab_of S4.out; have := HK.out; have := HM.out; have := R2.out; have := HP.out; have := HL.out; omega
    clear c4 o4
    go_wp2_with fail
    go_ret
    exact ⟨.string ((((⟨#[40]⟩ ++ s3) ++ ⟨#[38]⟩) ++ s4) ++ ⟨#[41]⟩), rfl, ab_mono (ab_app (ab_app (ab_app (ab_app (ab_lit ⟨#[40]⟩ 1 rfl (by decide)) S3.out) (ab_lit ⟨#[38]⟩ 1 rfl (by decide))) S4.out) (ab_lit ⟨#[41]⟩ 1 rfl (by decide))) (by have q0 := HK.out; have q1 := HM.out; have q2 := R1.out; have q3 := HB.out; have q4 := HP.out; have q5 := R2.out; have q6 := HL.out; omega), C4.out.mono (by have q0 := HK.out; have q1 := HM.out; have q2 := R1.out; have q3 := HB.out; have q4 := HP.out; have q5 := R2.out; have q6 := HL.out; omega), O4.out⟩
  · have HB := Lib.hid hb
    have : decide ((r1 : Int) < 4) = false := by simp; omega
    have : decide ((r1 : Int) < 8) = false := by simp; omega
    have : ((r1 : Int) == 8) = false := by simp; omega
    have : decide ((r1 : Int) < 12) = true := by simp; omega
    have : ((r1 : Int) == 12) = false := by simp; omega
    have : ((r1 : Int) == 13) = false := by simp; omega
    have : ((r1 : Int) == 14) = false := by simp; omega
    have : ((r1 : Int) == 15) = false := by simp; omega
    have : decide (2 < (n : Int)) = false := by simp; omega
    clear hb
    go_wp2_with fail
    go_ret
    exact ⟨.string ⟨#[48]⟩, rfl, ab_mono (ab_lit ⟨#[48]⟩ 1 rfl (by decide)) (by have q0 := HK.out; have q1 := HM.out; have q2 := R1.out; have q3 := HB.out; omega), C1.out.mono (by have q0 := HK.out; have q1 := HM.out; have q2 := R1.out; have q3 := HB.out; omega), O1.out⟩
  · have HB := Lib.hid hb
    have : decide ((r1 : Int) < 4) = false := by simp; omega
    have : decide ((r1 : Int) < 8) = false := by simp; omega
    have : ((r1 : Int) == 8) = false := by simp; omega
    have : decide ((r1 : Int) < 12) = false := by simp; omega
    have : ((r1 : Int) == 12) = true := by simp; omega
    clear hb
    go_wp2_with fail
    refine (drName_any c (k + 2) (by have q0 := HK.out; have q1 := HM.out; have q2 := R1.out; have q3 := HB.out; omega) _ C1.out).mono ?_
    rintro e w2 ⟨v, rfl, ⟨x2, n2, rfl⟩, c2, o2⟩
    have C2 := Lib.hid c2
    have O2 := Lib.hid (O1.out.trans o2)
    have N2 := Lib.hid n2
    have m2 : (one x2).size = 1 := rfl
    clear n2
    clear c2 o2
    go_wp2_with fail
    refine (HS1.out c ((k + 2) + 2) b _ (by have q0 := HK.out; have q1 := HM.out; have q2 := R1.out; have q3 := HB.out; omega) C2.out).mono ?_
    rintro e w3 ⟨v, rfl, A3, c3, o3⟩
    have C3 := Lib.hid c3
    have O3 := Lib.hid (O2.out.trans o3)
    have S3 := Lib.hid A3
    obtain ⟨s3, rfl, _, _⟩ := A3
    have z3 : s3.size ≤ 100000 := by have := ab_of S3.out; have := HK.out; have := HM.out; omega
    clear c3 o3
    go_wp2_with fail
    go_ret
    exact ⟨.string (((⟨#[35]⟩ ++ one x2) ++ ⟨#[46]⟩) ++ s3), rfl, ab_mono (ab_app (ab_app (ab_app (ab_lit ⟨#[35]⟩ 1 rfl (by decide)) (ab_nm N2.out)) (ab_lit ⟨#[46]⟩ 1 rfl (by decide))) S3.out) (by have q0 := HK.out; have q1 := HM.out; have q2 := R1.out; have q3 := HB.out; omega), C3.out.mono (by have q0 := HK.out; have q1 := HM.out; have q2 := R1.out; have q3 := HB.out; omega), O3.out⟩
  · have HB := Lib.hid hb
    have : decide ((r1 : Int) < 4) = false := by simp; omega
    have : decide ((r1 : Int) < 8) = false := by simp; omega
    have : ((r1 : Int) == 8) = false := by simp; omega
    have : decide ((r1 : Int) < 12) = false := by simp; omega
    have : ((r1 : Int) == 12) = false := by simp; omega
    have : ((r1 : Int) == 13) = true := by simp; omega
    clear hb
    go_wp2_with fail
    refine (drName_any c (k + 2) (by have q0 := HK.out; have q1 := HM.out; have q2 := R1.out; have q3 := HB.out; omega) _ C1.out).mono ?_
    rintro e w2 ⟨v, rfl, ⟨x2, n2, rfl⟩, c2, o2⟩
    have C2 := Lib.hid c2
    have O2 := Lib.hid (O1.out.trans o2)
    have N2 := Lib.hid n2
    have m2 : (one x2).size = 1 := rfl
    clear n2
    clear c2 o2
    go_wp2_with fail
    refine (drName_any c ((k + 2) + 2) (by have q0 := HK.out; have q1 := HM.out; have q2 := R1.out; have q3 := HB.out; omega) _ C2.out).mono ?_
    rintro e w3 ⟨v, rfl, ⟨x3, n3, rfl⟩, c3, o3⟩
    have C3 := Lib.hid c3
    have O3 := Lib.hid (O2.out.trans o3)
    have N3 := Lib.hid n3
    have m3 : (one x3).size = 1 := rfl
    clear n3
    clear c3 o3
    go_wp2_with fail
    refine (HS1.out c (((k + 2) + 2) + 2) b _ (by have q0 := HK.out; have q1 := HM.out; have q2 := R1.out; have q3 := HB.out; omega) C3.out).mono ?_
    rintro e w4 ⟨v, rfl, A4, c4, o4⟩
    have C4 := Lib.hid c4
    have O4 := Lib.hid (O3.out.trans o4)
    have S4 := Lib.hid A4
    obtain ⟨s4, rfl, _, _⟩ := A4
    have z4 : s4.size ≤ 100000 := by have := ab_of S4.out; have := HK.out; have := HM.out; omega
    clear c4 o4
    go_wp2_with fail
    go_ret
    exact ⟨.string (((((⟨#[91]⟩ ++ one x2) ++ ⟨#[61]⟩) ++ one x3) ++ ⟨#[93]⟩) ++ s4), rfl, ab_mono (ab_app (ab_app (ab_app (ab_app (ab_app (ab_lit ⟨#[91]⟩ 1 rfl (by decide)) (ab_nm N2.out)) (ab_lit ⟨#[61]⟩ 1 rfl (by decide))) (ab_nm N3.out)) (ab_lit ⟨#[93]⟩ 1 rfl (by decide))) S4.out) (by have q0 := HK.out; have q1 := HM.out; have q2 := R1.out; have q3 := HB.out; omega), C4.out.mono (by have q0 := HK.out; have q1 := HM.out; have q2 := R1.out; have q3 := HB.out; omega), O4.out⟩
  · have HB := Lib.hid hb
    have : decide ((r1 : Int) < 4) = false := by simp; omega
    have : decide ((r1 : Int) < 8) = false := by simp; omega
    have : ((r1 : Int) == 8) = false := by simp; omega
    have : decide ((r1 : Int) < 12) = false := by simp; omega
    have : ((r1 : Int) == 12) = false := by simp; omega
    have : ((r1 : Int) == 13) = false := by simp; omega
    have : ((r1 : Int) == 14) = true := by simp; omega
    have : decide (2 < (n : Int)) = true := by simp; omega
    clear hb
    obtain ⟨p, hp⟩ : ∃ p, p = n - 2 := ⟨_, rfl⟩
    have hw2 : IntKind.i64.wrap ((n : Int) - 2) = (p : Int) := by have q := HM.out; have q2 := HB.out; rw [IntKind.wrap_i64] <;> omega
    have HP := Lib.hid hp
    clear hp
    go_wp2_with fail
    refine (pick_lt c (k + 2) p (by have q0 := HK.out; have q1 := HM.out; have q2 := R1.out; have q3 := HB.out; have q4 := HP.out; omega) (by have q0 := HK.out; have q1 := HM.out; have q2 := R1.out; have q3 := HB.out; have q4 := HP.out; omega) (by have q0 := HK.out; have q1 := HM.out; have q2 := R1.out; have q3 := HB.out; have q4 := HP.out; omega) _ C1.out).mono ?_
    rintro e w2 ⟨v, rfl, ⟨r2, l2, rfl⟩, c2, o2⟩
    have C2 := Lib.hid c2
    have O2 := Lib.hid (O1.out.trans o2)
    have R2 := Lib.hid l2
    clear l2
    clear c2 o2
    obtain ⟨l, hl⟩ : ∃ l, l = 1 + r2 := ⟨_, rfl⟩
    obtain ⟨d, hd2⟩ : ∃ d, d = m - l := ⟨_, rfl⟩
    have HL := Lib.hid (And.intro hl hd2)
    have hw3 : IntKind.i64.wrap (1 + (r2 : Int)) = (l : Int) := by have q := HM.out; have q2 := R2.out; have q3 := HP.out; rw [IntKind.wrap_i64] <;> omega
    have hw4 : IntKind.i64.wrap ((m : Int) - (l : Int)) = (d : Int) := by have q := HM.out; have q2 := R2.out; have q3 := HP.out; have q4 := HB.out; rw [IntKind.wrap_i64] <;> omega
    have H1 := Lib.hid (HGA.out l (by have q0 := HK.out; have q1 := HM.out; have q2 := R1.out; have q3 := HB.out; have q4 := HP.out; have q5 := R2.out; have q6 := HL.out; omega) (by have q0 := HK.out; have q1 := HM.out; have q2 := R1.out; have q3 := HB.out; have q4 := HP.out; have q5 := R2.out; have q6 := HL.out; omega))
    have H2 := Lib.hid (HGA.out d (by have q0 := HK.out; have q1 := HM.out; have q2 := R1.out; have q3 := HB.out; have q4 := HP.out; have q5 := R2.out; have q6 := HL.out; omega) (by have q0 := HK.out; have q1 := HM.out; have q2 := R1.out; have q3 := HB.out; have q4 := HP.out; have q5 := R2.out; have q6 := HL.out; omega))
    clear hl hd2
    go_wp2_with fail
    refine (H1.out c ((k + 2) + 2) b _ (by have q0 := HK.out; have q1 := HM.out; have q2 := R1.out; have q3 := HB.out; have q4 := HP.out; have q5 := R2.out; have q6 := HL.out; omega) C2.out).mono ?_
    rintro e w3 ⟨v, rfl, A3, c3, o3⟩
    have C3 := Lib.hid c3
    have O3 := Lib.hid (O2.out.trans o3)
    have S3 := Lib.hid A3
    obtain ⟨s3, rfl, _, _⟩ := A3
    have z3 : s3.size ≤ 100000 := by have := ab_of S3.out; have := HK.out; have := HM.out; have := R2.out; have := HP.out; have := HL.out; omega
    clear c3 o3
    go_wp2_with fail
    refine (H2.out c (((k + 2) + 2) + (30 * l + 12)) b _ (by have q0 := HK.out; have q1 := HM.out; have q2 := R1.out; have q3 := HB.out; have q4 := HP.out; have q5 := R2.out; have q6 := HL.out; omega) C3.out).mono ?_
    rintro e w4 ⟨v, rfl, A4, c4, o4⟩
    have C4 := Lib.hid c4
    have O4 := Lib.hid (O3.out.trans o4)
    have S4 := Lib.hid A4
    obtain ⟨s4, rfl, _, _⟩ := A4
    have z4 : s4.size ≤ 100000 := by have := ab_of S4.out; have := HK.out; have := HM.out; have := R2.out; have := HP.out; have := HL.out; omega
    clear c4 o4
    go_wp2_with fail
    go_ret
    exact ⟨.string ((((⟨#[40]⟩ ++ s3) ++ ⟨#[43]⟩) ++ s4) ++ ⟨#[41]⟩), rfl, ab_mono (ab_app (ab_app (ab_app (ab_app (ab_lit ⟨#[40]⟩ 1 rfl (by decide)) S3.out) (ab_lit ⟨#[43]⟩ 1 rfl (by decide))) S4.out) (ab_lit ⟨#[41]⟩ 1 rfl (by decide))) (by have q0 := HK.out; have q1 := HM.out; have q2 := R1.out; have q3 := HB.out; have q4 := HP.out; have q5 := R2.out; have q6 := HL.out; omega), C4.out.mono (by have q0 := HK.out; have q1 := HM.out; have q2 := R1.out; have q3 := HB.out; have q4 := HP.out; have q5 := R2.out; have q6 := HL.out; omega), O4.out⟩
  · have HB := Lib.hid hb
    have : decide ((r1 : Int) < 4) = false := by simp; omega
    have : decide ((r1 : Int) < 8) = false := by simp; omega
    have : ((r1 : Int) == 8) = false := by simp; omega
    have : decide ((r1 : Int) < 12) = false := by simp; omega
    have : ((r1 : Int) == 12) = false := by simp; omega
    have : ((r1 : Int) == 13) = false := by simp; omega
    have : ((r1 : Int) == 14) = true := by simp; omega
    have : ((r1 : Int) == 15) = false := by simp; omega
    have : decide (2 < (n : Int)) = false := by simp; omega
    clear hb
    go_wp2_with fail
    go_ret
    exact ⟨.string ⟨#[48]⟩, rfl, ab_mono (ab_lit ⟨#[48]⟩ 1 rfl (by decide)) (by have q0 := HK.out; have q1 := HM.out; have q2 := R1.out; have q3 := HB.out; omega), C1.out.mono (by have q0 := HK.out; have q1 := HM.out; have q2 := R1.out; have q3 := HB.out; omega), O1.out⟩
  · have HB := Lib.hid hb
    have : decide ((r1 : Int) < 4) = false := by simp; omega
    have : decide ((r1 : Int) < 8) = false := by simp; omega
    have : ((r1 : Int) == 8) = false := by simp; omega
    have : decide ((r1 : Int) < 12) = false := by simp; omega
    have : ((r1 : Int) == 12) = false := by simp; omega
    have : ((r1 : Int) == 13) = false := by simp; omega
    have : ((r1 : Int) == 14) = false := by simp; omega
    have : ((r1 : Int) == 15) = true := by simp; omega
    have : decide (2 < (n : Int)) = true := by simp; omega
    clear hb
    obtain ⟨p, hp⟩ : ∃ p, p = n - 2 := ⟨_, rfl⟩
    have hw2 : IntKind.i64.wrap ((n : Int) - 2) = (p : Int) := by have q := HM.out; have q2 := HB.out; rw [IntKind.wrap_i64] <;> omega
    have HP := Lib.hid hp
    clear hp
    have H1 := Lib.hid (HSA.out p (by have q0 := HK.out; have q1 := HM.out; have q2 := R1.out; have q3 := HB.out; have q4 := HP.out; omega) (by have q0 := HK.out; have q1 := HM.out; have q2 := R1.out; have q3 := HB.out; have q4 := HP.out; omega))
    cases b with
    | true =>
      go_wp2_with fail
      refine (drName_any c (k + 2) (by have q0 := HK.out; have q1 := HM.out; have q2 := R1.out; have q3 := HB.out; have q4 := HP.out; omega) _ C1.out).mono ?_
      rintro e w2 ⟨v, rfl, ⟨x2, n2, rfl⟩, c2, o2⟩
      have C2 := Lib.hid c2
      have O2 := Lib.hid (O1.out.trans o2)
      have N2 := Lib.hid n2
      have m2 : (one x2).size = 1 := rfl
      clear n2
      clear c2 o2
      go_wp2_with fail
      refine (drName_any c ((k + 2) + 2) (by have q0 := HK.out; have q1 := HM.out; have q2 := R1.out; have q3 := HB.out; have q4 := HP.out; omega) _ C2.out).mono ?_
      rintro e w3 ⟨v, rfl, ⟨x3, n3, rfl⟩, c3, o3⟩
      have C3 := Lib.hid c3
      have O3 := Lib.hid (O2.out.trans o3)
      have N3 := Lib.hid n3
      have m3 : (one x3).size = 1 := rfl
      clear n3
      clear c3 o3
      go_wp2_with fail
      refine (H1.out c (((k + 2) + 2) + 2) true _ (by have q0 := HK.out; have q1 := HM.out; have q2 := R1.out; have q3 := HB.out; have q4 := HP.out; omega) C3.out).mono ?_
      rintro e w4 ⟨v, rfl, A4, c4, o4⟩
      have C4 := Lib.hid c4
      have O4 := Lib.hid (O3.out.trans o4)
      have S4 := Lib.hid A4
      obtain ⟨s4, rfl, _, _⟩ := A4
      have z4 : s4.size ≤ 100000 := by have := ab_of S4.out; have := HK.out; have := HM.out; have := HP.out; omega
      clear c4 o4
      go_wp2_with fail
      go_ret
      exact ⟨.string (((((⟨#[42]⟩ ++ one x2) ++ ⟨#[63]⟩) ++ one x3) ++ ⟨#[46]⟩) ++ s4), rfl, ab_mono (ab_app (ab_app (ab_app (ab_app (ab_app (ab_lit ⟨#[42]⟩ 1 rfl (by decide)) (ab_nm N2.out)) (ab_lit ⟨#[63]⟩ 1 rfl (by decide))) (ab_nm N3.out)) (ab_lit ⟨#[46]⟩ 1 rfl (by decide))) S4.out) (by have q0 := HK.out; have q1 := HM.out; have q2 := R1.out; have q3 := HB.out; have q4 := HP.out; omega), C4.out.mono (by have q0 := HK.out; have q1 := HM.out; have q2 := R1.out; have q3 := HB.out; have q4 := HP.out; omega), O4.out⟩
    | false =>
      go_wp2_with fail
      refine (HS1.out c (k + 2) false _ (by have q0 := HK.out; have q1 := HM.out; have q2 := R1.out; have q3 := HB.out; have q4 := HP.out; omega) C1.out).mono ?_
      rintro e w2 ⟨v, rfl, A2, c2, o2⟩
      have C2 := Lib.hid c2
      have O2 := Lib.hid (O1.out.trans o2)
      have S2 := Lib.hid A2
      obtain ⟨s2, rfl, _, _⟩ := A2
      have z2 : s2.size ≤ 100000 := by have := ab_of S2.out; have := HK.out; have := HM.out; omega
      clear c2 o2
      go_wp2_with fail
      go_ret
      exact ⟨.string (⟨#[42]⟩ ++ s2), rfl, ab_mono (ab_app (ab_lit ⟨#[42]⟩ 1 rfl (by decide)) S2.out) (by have q0 := HK.out; have q1 := HM.out; have q2 := R1.out; have q3 := HB.out; have q4 := HP.out; omega), C2.out.mono (by have q0 := HK.out; have q1 := HM.out; have q2 := R1.out; have q3 := HB.out; have q4 := HP.out; omega), O2.out⟩
  · have HB := Lib.hid hb
    have : decide ((r1 : Int) < 4) = false := by simp; omega
    have : decide ((r1 : Int) < 8) = false := by simp; omega
    have : ((r1 : Int) == 8) = false := by simp; omega
    have : decide ((r1 : Int) < 12) = false := by simp; omega
    have : ((r1 : Int) == 12) = false := by simp; omega
    have : ((r1 : Int) == 13) = false := by simp; omega
    have : ((r1 : Int) == 14) = false := by simp; omega
    have : ((r1 : Int) == 15) = true := by simp; omega
    have : decide (2 < (n : Int)) = false := by simp; omega
    clear hb
    go_wp2_with fail
    go_ret
    exact ⟨.string ⟨#[48]⟩, rfl, ab_mono (ab_lit ⟨#[48]⟩ 1 rfl (by decide)) (by have q0 := HK.out; have q1 := HM.out; have q2 := R1.out; have q3 := HB.out; omega), C1.out.mono (by have q0 := HK.out; have q1 := HM.out; have q2 := R1.out; have q3 := HB.out; omega), O1.out⟩

set_option maxHeartbeats 8000000 in
theorem grd_step (n m : Nat) (hn : 1 ≤ n) (hm : m = n - 1) (hs0 : SureT n) (hs : 1 ≤ m → SureT m) (hn25 : n ≤ 1000) : GrdT n := by
  intro c k b w hk hC
  have HC := Lib.hid hC
  have HK := Lib.hid hk
  have C0 := HC
  have O0 : Hid (Only c w w) := Only.refl c w
  clear hC hk
  have HM := Lib.hid (And.intro hm (And.intro hn hn25))
  have HS0 := Lib.hid hs0
  have HSA := Lib.hid hs
  clear hs hs0 hn25
  by_cases h2 : n < 2
  · have hd : decide ((n : Int) < 2) = true := by simp; omega
    clear h2 hm hn
    cases b with
    | true =>
      go_enter Tryz.func156, Tryz.ntmps156
      go_wp2_with fail
      go_ret
      exact ⟨.string ⟨#[48]⟩, rfl, ab_mono (ab_lit ⟨#[48]⟩ 1 rfl (by decide)) (by have := HM.out; omega), HC.out.mono (by omega), O0.out⟩
    | false =>
      go_enter Tryz.func156, Tryz.ntmps156
      go_wp2_with fail
      refine (one_any c k 4 (by decide) (by have q0 := HK.out; have q1 := HM.out; omega) (by decide) _ C0.out).mono ?_
      rintro e w1 ⟨v, rfl, ⟨y1, rfl⟩, c1, o1⟩
      have C1 := Lib.hid c1
      have O1 := Lib.hid (O0.out.trans o1)
      clear c1 o1
      cases y1 with
      | true =>
        go_wp2_with fail
        refine (HS0.out c (k + 2) false _ (by have q0 := HK.out; have q1 := HM.out; omega) C1.out).mono ?_
        rintro e w2 ⟨v, rfl, A2, c2, o2⟩
        have C2 := Lib.hid c2
        have O2 := Lib.hid (O1.out.trans o2)
        have S2 := Lib.hid A2
        obtain ⟨s2, rfl, _, _⟩ := A2
        have z2 : s2.size ≤ 100000 := by have := ab_of S2.out; have := HK.out; have := HM.out; omega
        clear c2 o2
        go_wp2_with fail
        go_ret
        exact ⟨.string s2, rfl, ab_mono S2.out (by have q0 := HK.out; have q1 := HM.out; omega), C2.out.mono (by have q0 := HK.out; have q1 := HM.out; omega), O2.out⟩
      | false =>
        go_wp2_with fail
        go_ret
        exact ⟨.string ⟨#[48]⟩, rfl, ab_mono (ab_lit ⟨#[48]⟩ 1 rfl (by decide)) (by have := HM.out; omega), C1.out.mono (by omega), O1.out⟩
  · have hd : decide ((n : Int) < 2) = false := by simp; omega
    have hw1 : IntKind.i64.wrap ((n : Int) - 1) = (m : Int) := by have q := HM.out; rw [IntKind.wrap_i64] <;> omega
    have HS1 := Lib.hid (HSA.out (by omega))
    have HN2 := Lib.hid (Nat.le_of_not_lt h2)
    clear h2 hm hn
    cases b with
    | true =>
      go_enter Tryz.func156, Tryz.ntmps156
      go_wp2_with fail
      refine (HS1.out c k true _ (by have q0 := HK.out; have q1 := HM.out; have q2 := HN2.out; omega) C0.out).mono ?_
      rintro e w1 ⟨v, rfl, A1, c1, o1⟩
      have C1 := Lib.hid c1
      have O1 := Lib.hid (O0.out.trans o1)
      have S1 := Lib.hid A1
      obtain ⟨s1, rfl, _, _⟩ := A1
      have z1 : s1.size ≤ 100000 := by have := ab_of S1.out; have := HK.out; have := HM.out; omega
      clear c1 o1
      go_wp2_with fail
      refine (pick_lt c (k + 30 * m) 5 (by decide) (by have q0 := HK.out; have q1 := HM.out; have q2 := HN2.out; omega) (by decide) _ C1.out).mono ?_
      rintro e w2 ⟨v, rfl, ⟨r2, l2, rfl⟩, c2, o2⟩
      have C2 := Lib.hid c2
      have O2 := Lib.hid (O1.out.trans o2)
      have R2 := Lib.hid l2
      clear l2
      clear c2 o2
      rcases (show (r2 = 0 ∨ r2 = 1) ∨ (r2 = 2 ∨ r2 = 3) ∨ r2 = 4 from by have := R2.out; omega) with (rfl | rfl) | (rfl | rfl) | rfl
      · go_wp2_with fail
        refine (drName_any c ((k + 30 * m) + 2) (by have q0 := HK.out; have q1 := HM.out; have q2 := HN2.out; omega) _ C2.out).mono ?_
        rintro e w3 ⟨v, rfl, ⟨x3, n3, rfl⟩, c3, o3⟩
        have C3 := Lib.hid c3
        have O3 := Lib.hid (O2.out.trans o3)
        have N3 := Lib.hid n3
        have m3 : (one x3).size = 1 := rfl
        clear n3
        clear c3 o3
        go_wp2_with fail
        refine (drName_any c (((k + 30 * m) + 2) + 2) (by have q0 := HK.out; have q1 := HM.out; have q2 := HN2.out; omega) _ C3.out).mono ?_
        rintro e w4 ⟨v, rfl, ⟨x4, n4, rfl⟩, c4, o4⟩
        have C4 := Lib.hid c4
        have O4 := Lib.hid (O3.out.trans o4)
        have N4 := Lib.hid n4
        have m4 : (one x4).size = 1 := rfl
        clear n4
        clear c4 o4
        go_wp2_with fail
        go_ret
        exact ⟨.string ((((one x3 ++ ⟨#[33]⟩) ++ one x4) ++ ⟨#[46]⟩) ++ s1), rfl, ab_mono (ab_app (ab_app (ab_app (ab_app (ab_nm N3.out) (ab_lit ⟨#[33]⟩ 1 rfl (by decide))) (ab_nm N4.out)) (ab_lit ⟨#[46]⟩ 1 rfl (by decide))) S1.out) (by have q0 := HK.out; have q1 := HM.out; have q2 := HN2.out; omega), C4.out.mono (by have q0 := HK.out; have q1 := HM.out; have q2 := HN2.out; omega), O4.out⟩
      · go_wp2_with fail
        refine (drName_any c ((k + 30 * m) + 2) (by have q0 := HK.out; have q1 := HM.out; have q2 := HN2.out; omega) _ C2.out).mono ?_
        rintro e w3 ⟨v, rfl, ⟨x3, n3, rfl⟩, c3, o3⟩
        have C3 := Lib.hid c3
        have O3 := Lib.hid (O2.out.trans o3)
        have N3 := Lib.hid n3
        have m3 : (one x3).size = 1 := rfl
        clear n3
        clear c3 o3
        go_wp2_with fail
        refine (drName_any c (((k + 30 * m) + 2) + 2) (by have q0 := HK.out; have q1 := HM.out; have q2 := HN2.out; omega) _ C3.out).mono ?_
        rintro e w4 ⟨v, rfl, ⟨x4, n4, rfl⟩, c4, o4⟩
        have C4 := Lib.hid c4
        have O4 := Lib.hid (O3.out.trans o4)
        have N4 := Lib.hid n4
        have m4 : (one x4).size = 1 := rfl
        clear n4
        clear c4 o4
        go_wp2_with fail
        go_ret
        exact ⟨.string ((((one x3 ++ ⟨#[33]⟩) ++ one x4) ++ ⟨#[46]⟩) ++ s1), rfl, ab_mono (ab_app (ab_app (ab_app (ab_app (ab_nm N3.out) (ab_lit ⟨#[33]⟩ 1 rfl (by decide))) (ab_nm N4.out)) (ab_lit ⟨#[46]⟩ 1 rfl (by decide))) S1.out) (by have q0 := HK.out; have q1 := HM.out; have q2 := HN2.out; omega), C4.out.mono (by have q0 := HK.out; have q1 := HM.out; have q2 := HN2.out; omega), O4.out⟩
      · go_wp2_with fail
        refine (drName_any c ((k + 30 * m) + 2) (by have q0 := HK.out; have q1 := HM.out; have q2 := HN2.out; omega) _ C2.out).mono ?_
        rintro e w3 ⟨v, rfl, ⟨x3, n3, rfl⟩, c3, o3⟩
        have C3 := Lib.hid c3
        have O3 := Lib.hid (O2.out.trans o3)
        have N3 := Lib.hid n3
        have m3 : (one x3).size = 1 := rfl
        clear n3
        clear c3 o3
        go_wp2_with fail
        refine (drName_any c (((k + 30 * m) + 2) + 2) (by have q0 := HK.out; have q1 := HM.out; have q2 := HN2.out; omega) _ C3.out).mono ?_
        rintro e w4 ⟨v, rfl, ⟨x4, n4, rfl⟩, c4, o4⟩
        have C4 := Lib.hid c4
        have O4 := Lib.hid (O3.out.trans o4)
        have N4 := Lib.hid n4
        have m4 : (one x4).size = 1 := rfl
        clear n4
        clear c4 o4
        go_wp2_with fail
        go_ret
        exact ⟨.string ((((one x3 ++ ⟨#[63]⟩) ++ one x4) ++ ⟨#[46]⟩) ++ s1), rfl, ab_mono (ab_app (ab_app (ab_app (ab_app (ab_nm N3.out) (ab_lit ⟨#[63]⟩ 1 rfl (by decide))) (ab_nm N4.out)) (ab_lit ⟨#[46]⟩ 1 rfl (by decide))) S1.out) (by have q0 := HK.out; have q1 := HM.out; have q2 := HN2.out; omega), C4.out.mono (by have q0 := HK.out; have q1 := HM.out; have q2 := HN2.out; omega), O4.out⟩
      · go_wp2_with fail
        refine (drName_any c ((k + 30 * m) + 2) (by have q0 := HK.out; have q1 := HM.out; have q2 := HN2.out; omega) _ C2.out).mono ?_
        rintro e w3 ⟨v, rfl, ⟨x3, n3, rfl⟩, c3, o3⟩
        have C3 := Lib.hid c3
        have O3 := Lib.hid (O2.out.trans o3)
        have N3 := Lib.hid n3
        have m3 : (one x3).size = 1 := rfl
        clear n3
        clear c3 o3
        go_wp2_with fail
        refine (drName_any c (((k + 30 * m) + 2) + 2) (by have q0 := HK.out; have q1 := HM.out; have q2 := HN2.out; omega) _ C3.out).mono ?_
        rintro e w4 ⟨v, rfl, ⟨x4, n4, rfl⟩, c4, o4⟩
        have C4 := Lib.hid c4
        have O4 := Lib.hid (O3.out.trans o4)
        have N4 := Lib.hid n4
        have m4 : (one x4).size = 1 := rfl
        clear n4
        clear c4 o4
        go_wp2_with fail
        go_ret
        exact ⟨.string ((((one x3 ++ ⟨#[63]⟩) ++ one x4) ++ ⟨#[46]⟩) ++ s1), rfl, ab_mono (ab_app (ab_app (ab_app (ab_app (ab_nm N3.out) (ab_lit ⟨#[63]⟩ 1 rfl (by decide))) (ab_nm N4.out)) (ab_lit ⟨#[46]⟩ 1 rfl (by decide))) S1.out) (by have q0 := HK.out; have q1 := HM.out; have q2 := HN2.out; omega), C4.out.mono (by have q0 := HK.out; have q1 := HM.out; have q2 := HN2.out; omega), O4.out⟩
      · go_wp2_with fail
        go_ret
        exact ⟨.string (⟨#[126, 46]⟩ ++ s1), rfl, ab_mono (ab_app (ab_lit ⟨#[126, 46]⟩ 2 rfl (by decide)) S1.out) (by have q0 := HK.out; have q1 := HM.out; have q2 := HN2.out; omega), C2.out.mono (by have q0 := HK.out; have q1 := HM.out; have q2 := HN2.out; omega), O2.out⟩
    | false =>
      go_enter Tryz.func156, Tryz.ntmps156
      go_wp2_with fail
      refine (one_any c k 4 (by decide) (by have q0 := HK.out; have q1 := HM.out; omega) (by decide) _ C0.out).mono ?_
      rintro e w1 ⟨v, rfl, ⟨y1, rfl⟩, c1, o1⟩
      have C1 := Lib.hid c1
      have O1 := Lib.hid (O0.out.trans o1)
      clear c1 o1
      cases y1 with
      | true =>
        go_wp2_with fail
        refine (HS0.out c (k + 2) false _ (by have q0 := HK.out; have q1 := HM.out; omega) C1.out).mono ?_
        rintro e w2 ⟨v, rfl, A2, c2, o2⟩
        have C2 := Lib.hid c2
        have O2 := Lib.hid (O1.out.trans o2)
        have S2 := Lib.hid A2
        obtain ⟨s2, rfl, _, _⟩ := A2
        have z2 : s2.size ≤ 100000 := by have := ab_of S2.out; have := HK.out; have := HM.out; omega
        clear c2 o2
        go_wp2_with fail
        go_ret
        exact ⟨.string s2, rfl, ab_mono S2.out (by have q0 := HK.out; have q1 := HM.out; omega), C2.out.mono (by have q0 := HK.out; have q1 := HM.out; omega), O2.out⟩
      | false =>
        go_wp2_with fail
        refine (HS1.out c (k + 2) false _ (by have q0 := HK.out; have q1 := HM.out; have q2 := HN2.out; omega) C1.out).mono ?_
        rintro e w2 ⟨v, rfl, A2, c2, o2⟩
        have C2 := Lib.hid c2
        have O2 := Lib.hid (O1.out.trans o2)
        have S2 := Lib.hid A2
        obtain ⟨s2, rfl, _, _⟩ := A2
        have z2 : s2.size ≤ 100000 := by have := ab_of S2.out; have := HK.out; have := HM.out; omega
        clear c2 o2
        go_wp2_with fail
        refine (pick_lt c ((k + 2) + 30 * m) 5 (by decide) (by have q0 := HK.out; have q1 := HM.out; have q2 := HN2.out; omega) (by decide) _ C2.out).mono ?_
        rintro e w3 ⟨v, rfl, ⟨r3, l3, rfl⟩, c3, o3⟩
        have C3 := Lib.hid c3
        have O3 := Lib.hid (O2.out.trans o3)
        have R3 := Lib.hid l3
        clear l3
        clear c3 o3
        rcases (show (r3 = 0 ∨ r3 = 1) ∨ (r3 = 2 ∨ r3 = 3) ∨ r3 = 4 from by have := R3.out; omega) with (rfl | rfl) | (rfl | rfl) | rfl
        · go_wp2_with fail
          refine (drName_any c (((k + 2) + 30 * m) + 2) (by have q0 := HK.out; have q1 := HM.out; have q2 := HN2.out; omega) _ C3.out).mono ?_
          rintro e w4 ⟨v, rfl, ⟨x4, n4, rfl⟩, c4, o4⟩
          have C4 := Lib.hid c4
          have O4 := Lib.hid (O3.out.trans o4)
          have N4 := Lib.hid n4
          have m4 : (one x4).size = 1 := rfl
          clear n4
          clear c4 o4
          go_wp2_with fail
          refine (drName_any c ((((k + 2) + 30 * m) + 2) + 2) (by have q0 := HK.out; have q1 := HM.out; have q2 := HN2.out; omega) _ C4.out).mono ?_
          rintro e w5 ⟨v, rfl, ⟨x5, n5, rfl⟩, c5, o5⟩
          have C5 := Lib.hid c5
          have O5 := Lib.hid (O4.out.trans o5)
          have N5 := Lib.hid n5
          have m5 : (one x5).size = 1 := rfl
          clear n5
          clear c5 o5
          go_wp2_with fail
          go_ret
          exact ⟨.string ((((one x4 ++ ⟨#[33]⟩) ++ one x5) ++ ⟨#[46]⟩) ++ s2), rfl, ab_mono (ab_app (ab_app (ab_app (ab_app (ab_nm N4.out) (ab_lit ⟨#[33]⟩ 1 rfl (by decide))) (ab_nm N5.out)) (ab_lit ⟨#[46]⟩ 1 rfl (by decide))) S2.out) (by have q0 := HK.out; have q1 := HM.out; have q2 := HN2.out; omega), C5.out.mono (by have q0 := HK.out; have q1 := HM.out; have q2 := HN2.out; omega), O5.out⟩
        · go_wp2_with fail
          refine (drName_any c (((k + 2) + 30 * m) + 2) (by have q0 := HK.out; have q1 := HM.out; have q2 := HN2.out; omega) _ C3.out).mono ?_
          rintro e w4 ⟨v, rfl, ⟨x4, n4, rfl⟩, c4, o4⟩
          have C4 := Lib.hid c4
          have O4 := Lib.hid (O3.out.trans o4)
          have N4 := Lib.hid n4
          have m4 : (one x4).size = 1 := rfl
          clear n4
          clear c4 o4
          go_wp2_with fail
          refine (drName_any c ((((k + 2) + 30 * m) + 2) + 2) (by have q0 := HK.out; have q1 := HM.out; have q2 := HN2.out; omega) _ C4.out).mono ?_
          rintro e w5 ⟨v, rfl, ⟨x5, n5, rfl⟩, c5, o5⟩
          have C5 := Lib.hid c5
          have O5 := Lib.hid (O4.out.trans o5)
          have N5 := Lib.hid n5
          have m5 : (one x5).size = 1 := rfl
          clear n5
          clear c5 o5
          go_wp2_with fail
          go_ret
          exact ⟨.string ((((one x4 ++ ⟨#[33]⟩) ++ one x5) ++ ⟨#[46]⟩) ++ s2), rfl, ab_mono (ab_app (ab_app (ab_app (ab_app (ab_nm N4.out) (ab_lit ⟨#[33]⟩ 1 rfl (by decide))) (ab_nm N5.out)) (ab_lit ⟨#[46]⟩ 1 rfl (by decide))) S2.out) (by have q0 := HK.out; have q1 := HM.out; have q2 := HN2.out; omega), C5.out.mono (by have q0 := HK.out; have q1 := HM.out; have q2 := HN2.out; omega), O5.out⟩
        · go_wp2_with fail
          refine (drName_any c (((k + 2) + 30 * m) + 2) (by have q0 := HK.out; have q1 := HM.out; have q2 := HN2.out; omega) _ C3.out).mono ?_
          rintro e w4 ⟨v, rfl, ⟨x4, n4, rfl⟩, c4, o4⟩
          have C4 := Lib.hid c4
          have O4 := Lib.hid (O3.out.trans o4)
          have N4 := Lib.hid n4
          have m4 : (one x4).size = 1 := rfl
          clear n4
          clear c4 o4
          go_wp2_with fail
          refine (drName_any c ((((k + 2) + 30 * m) + 2) + 2) (by have q0 := HK.out; have q1 := HM.out; have q2 := HN2.out; omega) _ C4.out).mono ?_
          rintro e w5 ⟨v, rfl, ⟨x5, n5, rfl⟩, c5, o5⟩
          have C5 := Lib.hid c5
          have O5 := Lib.hid (O4.out.trans o5)
          have N5 := Lib.hid n5
          have m5 : (one x5).size = 1 := rfl
          clear n5
          clear c5 o5
          go_wp2_with fail
          go_ret
          exact ⟨.string ((((one x4 ++ ⟨#[63]⟩) ++ one x5) ++ ⟨#[46]⟩) ++ s2), rfl, ab_mono (ab_app (ab_app (ab_app (ab_app (ab_nm N4.out) (ab_lit ⟨#[63]⟩ 1 rfl (by decide))) (ab_nm N5.out)) (ab_lit ⟨#[46]⟩ 1 rfl (by decide))) S2.out) (by have q0 := HK.out; have q1 := HM.out; have q2 := HN2.out; omega), C5.out.mono (by have q0 := HK.out; have q1 := HM.out; have q2 := HN2.out; omega), O5.out⟩
        · go_wp2_with fail
          refine (drName_any c (((k + 2) + 30 * m) + 2) (by have q0 := HK.out; have q1 := HM.out; have q2 := HN2.out; omega) _ C3.out).mono ?_
          rintro e w4 ⟨v, rfl, ⟨x4, n4, rfl⟩, c4, o4⟩
          have C4 := Lib.hid c4
          have O4 := Lib.hid (O3.out.trans o4)
          have N4 := Lib.hid n4
          have m4 : (one x4).size = 1 := rfl
          clear n4
          clear c4 o4
          go_wp2_with fail
          refine (drName_any c ((((k + 2) + 30 * m) + 2) + 2) (by have q0 := HK.out; have q1 := HM.out; have q2 := HN2.out; omega) _ C4.out).mono ?_
          rintro e w5 ⟨v, rfl, ⟨x5, n5, rfl⟩, c5, o5⟩
          have C5 := Lib.hid c5
          have O5 := Lib.hid (O4.out.trans o5)
          have N5 := Lib.hid n5
          have m5 : (one x5).size = 1 := rfl
          clear n5
          clear c5 o5
          go_wp2_with fail
          go_ret
          exact ⟨.string ((((one x4 ++ ⟨#[63]⟩) ++ one x5) ++ ⟨#[46]⟩) ++ s2), rfl, ab_mono (ab_app (ab_app (ab_app (ab_app (ab_nm N4.out) (ab_lit ⟨#[63]⟩ 1 rfl (by decide))) (ab_nm N5.out)) (ab_lit ⟨#[46]⟩ 1 rfl (by decide))) S2.out) (by have q0 := HK.out; have q1 := HM.out; have q2 := HN2.out; omega), C5.out.mono (by have q0 := HK.out; have q1 := HM.out; have q2 := HN2.out; omega), O5.out⟩
        · go_wp2_with fail
          go_ret
          exact ⟨.string (⟨#[126, 46]⟩ ++ s2), rfl, ab_mono (ab_app (ab_lit ⟨#[126, 46]⟩ 2 rfl (by decide)) S2.out) (by have q0 := HK.out; have q1 := HM.out; have q2 := HN2.out; omega), C3.out.mono (by have q0 := HK.out; have q1 := HM.out; have q2 := HN2.out; omega), O3.out⟩

theorem draws_all (N : Nat) : ∀ n, n ≤ N → 1 ≤ n → n ≤ 1000 → SureT n ∧ GrdT n := by
  induction N with
  | zero => intro n h h1; omega
  | succ N ih =>
    intro n hn h1 hk
    have hs : SureT n := by
      by_cases h2 : n < 2
      · exact sure_low n h1 h2
      · exact sure_step n (n - 1) (by omega) rfl (fun j a b => (ih j (by omega) a (by omega)).1) (fun j a b => (ih j (by omega) a (by omega)).2) hk
    exact ⟨hs, grd_step n (n - 1) h1 rfl hs (fun h => (ih (n - 1) (by omega) h (by omega)).1) hk⟩
theorem sure_any (n : Nat) (h1 : 1 ≤ n) (h2 : n ≤ 1000) : SureT n := (draws_all n n (Nat.le_refl _) h1 h2).1
end Go.Proofs.YtmfmagfgcdaeeaaGreat.T1

/- What KindOf answers on both sides. No conditions. -/
namespace Go.Proofs.YtmfmagfgcdaeeaaGreat
namespace LawKindOf
open Go.ChangeShapes Go.WideShapes Go.ChangeAt Go.RowKit Go.Proofs.YtmfmagfgcdaeeaaGreat.T1
open Go.ChangeMaps (open_string shut_string)
set_option linter.unusedVariables false

theorem conv1 (k : UInt8) (w : World) : (convert 22 9 (.slice (some ⟨w.heap.size, 0, none⟩) 1 1)).run Tryz.prog (w.alloc (.cells #[.int .u8 (k.toNat : Int)] 5)) = .ok (.string (T1.one k)) (w.alloc (.cells #[.int .u8 (k.toNat : Int)] 5)) :=
  run_convert_bytes_back _ 22 9 5 _ 1 [k] Tryz.underlying22 Tryz.underlying5 Tryz.underlying9 (fun j hj => by
    have : j = 0 := by simp at hj; omega
    subst this
    rw [show (⟨w.heap.size, 0, none⟩ : Addr).add 0 = ⟨w.heap.size, 0, none⟩ from rfl, World.cell?_alloc_new]; rfl)

theorem impl_none (s : ByteArray) (hg : good s.data.toList = none) (hm : s.size ≤ 9223372036854775807) (w : World) : Calls Tryz.prog 57 #[.string s] w fun e w' => e = .returned (.tuple #[.string ⟨#[]⟩, .bool false]) ∧ Below w.heap.size w w' := by
  have H := Lib.hid (parse_none hg w hm)
  clear hg
  go_enter Tryz.func57, Tryz.ntmps57
  go_wp2_with fail
  refine (H.out).mono ?_
  rintro e w1 ⟨rfl, bl⟩
  go_wp2_with fail
  go_ret2
  exact ⟨rfl, bl⟩
set_option maxHeartbeats 1000000 in
theorem impl_some (s : ByteArray) (t : Tm) (hg : good s.data.toList = some t) (hm : s.size ≤ 9223372036854775807) (w : World) : Calls Tryz.prog 57 #[.string s] w fun e w' => e = .returned (.tuple #[.string (T1.one t.kind), .bool true]) ∧ Below w.heap.size w w' := by
  have H := Lib.hid (parse_some hg w hm)
  obtain ⟨es, hL, hE, h300, h60⟩ := good_S hg
  obtain ⟨F, R, hm1, hn1, hc1, hp⟩ := (kind_fact t).pf
  obtain ⟨T, hT⟩ : ∃ T, T = tyOf t := ⟨_, rfl⟩
  obtain ⟨V, hV⟩ : ∃ V, V = pay t := ⟨_, rfl⟩
  obtain ⟨k, hk⟩ : ∃ k, k = t.kind := ⟨_, rfl⟩
  rw [← hT, ← hV] at H hm1 hn1
  rw [← hk] at hp ⊢
  have H2 := Lib.hid hp
  clear hg es hL hE h300 h60 hp hT hV hk
  go_enter Tryz.func57, Tryz.ntmps57
  go_wp2_with fail
  refine (H.out).mono ?_
  rintro e w1 ⟨rfl, bl⟩
  go_wp2_with fail
  refine (H2.out _).mono ?_
  rintro e w2 ⟨rfl, b2⟩
  go_wp2_with fail
  go_ret2
  exact ⟨rfl, below_trans bl b2 bl.size⟩
end LawKindOf
end Go.Proofs.YtmfmagfgcdaeeaaGreat

/- Texts that are spoilt. No conditions. -/
namespace Go.Proofs.YtmfmagfgcdaeeaaGreat.T1
open Go.RowKit
set_option maxRecDepth 100000
set_option linter.unusedVariables false
set_option linter.unusedSimpArgs false

theorem ab_ext {n : Nat} {s : ByteArray} (h : Ab n (.string s)) (a b m : Nat) (hm : b ≤ a + m) : Ab m (.string (s.extract a b)) := by
  obtain ⟨_, e, h1, h2⟩ := h
  cases e
  refine ⟨_, rfl, by rw [ByteArray.size_extract]; omega, fun x hx => h2 x ?_⟩
  rw [ByteArray.data_extract, Array.toList_extract] at hx
  exact List.mem_of_mem_drop (List.mem_of_mem_take hx)
theorem ab_one {ch : UInt8} (h : AB ch = true) : Ab 1 (.string (one ch)) := ⟨_, rfl, Nat.le_refl _, fun b hb => by
  have : b = ch := by simpa [one] using hb
  subst this; exact h⟩
set_option maxHeartbeats 4000000 in
theorem spoilt_any (c k M : Nat) (s0 wi : ByteArray) (hk : k ≤ 500000) (hM : M ≤ 1000) (hs0 : Ab M (.string s0)) (hw0 : 1 ≤ wi.size) (hw1 : wi.size ≤ 100) (hwa : ∀ b ∈ wi.data.toList, AB b = true) (w : World) (hC : Cur w c k) :
    Calls Tryz.prog 136 #[.pointer (some ⟨c, 0, none⟩), .string s0, .string wi] w (Dr (Ab (M + 2)) c (k + 20) w) := by
  have HC := Lib.hid hC
  have HS := Lib.hid hs0
  have HW := Lib.hid (And.intro hw0 (And.intro hw1 hwa))
  have HK := Lib.hid (And.intro hk hM)
  clear hC hs0 hw0 hw1 hwa hk hM
  go_enter Tryz.func136, Tryz.ntmps136
  go_wp2_with fail
  refine (pick_lt c k 2 (by decide) (by have := HK.out; omega) (by decide) _ HC.out).mono ?_
  rintro e w1 ⟨v, rfl, ⟨r1, l1, rfl⟩, c1, o1⟩
  have C1 := Lib.hid c1
  have O1 := Lib.hid o1
  obtain ⟨n, hn⟩ : ∃ n, n = 1 + r1 := ⟨_, rfl⟩
  have hw1 : IntKind.i64.wrap (1 + (r1 : Int)) = (n : Int) := by rw [IntKind.wrap_i64] <;> omega
  have HN := Lib.hid (show n ≤ 2 by omega)
  clear c1 o1 l1 hn
  go_wp2_with fail
  go_loopg [1, 7] n (fun g s1 s7 wr => ∃ s : ByteArray, s1 = .string s ∧ s7 = .int .i64 (g : Int) ∧ Hid (g ≤ 2) ∧ Hid (Ab (M + 2 - g) (.string s)) ∧ Hid (Cur wr c (k + 2 + 6 * (2 - g))) ∧ Hid (Only c w wr))
  case atStart => exact ⟨s0, rfl, rfl, HN, ab_mono HS.out (by have := HN.out; omega), C1.out.mono (by omega), O1⟩
  case round =>
    obtain ⟨s, rfl, rfl, hg, hs, hC, hO⟩ := hrel
    by_cases hlt : 0 < gk
    · have d1 : decide (0 < (gk : Int)) = true := by simp; omega
      by_cases hz : 0 < s.size
      · have d2 : decide (0 < (s.size : Int)) = true := by simp; omega
        go_wp2_with fail
        refine (pick_lt c _ s.size hz (by have := HK.out; have := hg.out; omega) (by have := ab_of hs.out; have := HK.out; omega) _ hC.out).mono ?_
        rintro e w2 ⟨v, rfl, ⟨r2, l2, rfl⟩, c2, o2⟩
        have C2 := Lib.hid c2
        have O2 := Lib.hid (hO.out.trans o2)
        have R2 := Lib.hid l2
        clear c2 o2 l2 hC hO
        go_wp2_with fail
        refine (pick_lt c _ wi.size HW.out.1 (by have := HK.out; have := hg.out; omega) (by have := HW.out; omega) _ C2.out).mono ?_
        rintro e w3 ⟨v, rfl, ⟨r3, l3, rfl⟩, c3, o3⟩
        have C3 := Lib.hid c3
        have O3 := Lib.hid (O2.out.trans o3)
        have hch : AB (wi[r3]'l3) = true := HW.out.2.2 _ (by rw [ByteArray.getElem_eq_getElem_data]; exact Array.getElem_mem_toList _)
        have hcv := LawKindOf.conv1 (wi[r3]'l3) w3
        have l3' : (r3 : Int) < (wi.size : Int) := by omega
        have HCH := Lib.hid hch
        clear c3 o3 hch C2 O2
        go_wp2_with fail
        refine (pick_lt c _ 3 (by decide) (by have := HK.out; have := hg.out; omega) (by decide) _ (C3.out.below ((Below.refl _ _).alloc (Nat.le_refl _) _))).mono ?_
        rintro e w4 ⟨v, rfl, ⟨r4, l4, rfl⟩, c4, o4⟩
        obtain ⟨ch, hch⟩ : ∃ ch, ch = wi[r3]'l3 := ⟨_, rfl⟩
        rw [← hch]
        rw [← hch] at HCH
        have C4 := Lib.hid (c4.mono (show _ ≤ k + 2 + 6 * (2 - (gk - 1)) by have := hg.out; omega))
        have O4 := Lib.hid ((O3.out.alloc _).trans o4)
        clear c4 o4 C3 O3 hcv l3' hch
        have hz2 : s.size ≤ 1002 := by have := ab_of hs.out; have := HK.out; omega
        have hr2 : r2 ≤ s.size := Nat.le_of_lt R2.out
        have hr2' : (r2 : Int) ≤ (s.size : Int) := by omega
        have hr3' : (r2 : Int) + 1 ≤ (s.size : Int) := by have := R2.out; omega
        have hwi : IntKind.i64.wrap ((r2 : Int) + 1) = ((r2 + 1 : Nat) : Int) := by rw [IntKind.wrap_i64] <;> omega
        have hwg : IntKind.i64.wrap ((gk : Int) - 1) = ((gk - 1 : Nat) : Int) := by have := hg.out; rw [IntKind.wrap_i64] <;> omega
        have hch1 : (one ch).size = 1 := rfl
        have e1 : (s.extract 0 r2).size = r2 := by rw [ByteArray.size_extract]; omega
        have e2 : (s.extract r2 s.size).size = s.size - r2 := by rw [ByteArray.size_extract]; omega
        have e3 : (s.extract (r2 + 1) s.size).size = s.size - (r2 + 1) := by rw [ByteArray.size_extract]; omega
        rcases (show r4 = 0 ∨ r4 = 1 ∨ r4 = 2 from by omega) with rfl | rfl | rfl
        · go_wp2_with fail
          go_quiet (fail)
          go_wp2_with fail
          go_roundg (gk - 1)
          case rel => exact ⟨_, rfl, rfl, Lib.hid (by have := hg.out; omega), ab_mono (ab_app (ab_app (ab_ext hs.out 0 r2 r2 (by omega)) (ab_one HCH.out)) (ab_ext hs.out r2 s.size (s.size - r2) (by omega))) (by have := ab_of hs.out; have := hg.out; omega), C4.out.below (below_drewN' (Below.refl _ _) _), O4.out.drewN _⟩
          case measure => omega
        · go_wp2_with fail
          go_quiet (fail)
          go_wp2_with fail
          go_roundg (gk - 1)
          case rel => exact ⟨_, rfl, rfl, Lib.hid (by have := hg.out; omega), ab_mono (ab_app (ab_app (ab_ext hs.out 0 r2 r2 (by omega)) (ab_one HCH.out)) (ab_ext hs.out (r2 + 1) s.size (s.size - r2) (by omega))) (by have := ab_of hs.out; have := hg.out; omega), C4.out.below (below_drewN' (Below.refl _ _) _), O4.out.drewN _⟩
          case measure => omega
        · go_wp2_with fail
          go_quiet (fail)
          go_wp2_with fail
          go_roundg (gk - 1)
          case rel => exact ⟨_, rfl, rfl, Lib.hid (by have := hg.out; omega), ab_mono (ab_app (ab_ext hs.out 0 r2 r2 (by omega)) (ab_ext hs.out (r2 + 1) s.size (s.size - r2) (by omega))) (by have := ab_of hs.out; have := hg.out; omega), C4.out.below (below_drewN' (Below.refl _ _) _), O4.out.drewN _⟩
          case measure => omega
      · have d2 : decide (0 < s.size) = false := decide_eq_false hz
        clear hz
        go_wp2_with fail
        go_ret
        exact ⟨.string s, rfl, ab_mono hs.out (by omega), hC.out.mono (by have := hg.out; omega), hO.out⟩
    · have d1 : decide (0 < gk) = false := decide_eq_false hlt
      clear hlt
      go_wp2_with fail
      go_ret
      exact ⟨.string s, rfl, ab_mono hs.out (by omega), hC.out.mono (by have := hg.out; omega), hO.out⟩
end Go.Proofs.YtmfmagfgcdaeeaaGreat.T1

/- Processes and other texts that are drawn. No conditions. -/
namespace Go.Proofs.YtmfmagfgcdaeeaaGreat.T1
open Go.RowKit
set_option maxRecDepth 100000
set_option linter.unusedVariables false
set_option linter.unusedSimpArgs false

set_option maxHeartbeats 4000000 in
theorem drProcess_any (c k n : Nat) (b : Bool) (hn0 : 1 ≤ n) (hn : n ≤ 20) (hk : k ≤ 50000) (w : World) (hC : Cur w c k) :
    Calls Tryz.prog 74 #[.pointer (some ⟨c, 0, none⟩), .int .i64 (n : Int), .bool b] w (Dr (Ab 1000) c (k + 4000) w) := by
  have HC := Lib.hid hC
  have HK := Lib.hid (And.intro hk (And.intro hn0 hn))
  clear hC hk hn0 hn
  go_enter Tryz.func74, Tryz.ntmps74
  go_wp2_with fail
  refine (pick_lt c k n HK.out.2.1 (by have := HK.out; omega) (by have := HK.out; omega) _ HC.out).mono ?_
  rintro e w1 ⟨v, rfl, ⟨r1, l1, rfl⟩, c1, o1⟩
  have C1 := Lib.hid c1
  have O1 := Lib.hid o1
  obtain ⟨m, hm⟩ : ∃ m, m = 2 + r1 := ⟨_, rfl⟩
  have hw1 : IntKind.i64.wrap (2 + (r1 : Int)) = (m : Int) := by have := HK.out; rw [IntKind.wrap_i64] <;> omega
  have HM := Lib.hid (show 1 ≤ m ∧ m ≤ 21 by have := HK.out; omega)
  clear c1 o1 l1 hm
  go_wp2_with fail
  refine (sure_any m HM.out.1 (by have := HM.out; omega) c _ b _ (by have := HM.out; have := HK.out; omega) C1.out).mono ?_
  rintro e w2 ⟨v, rfl, a2, c2, o2⟩
  have A2 := Lib.hid a2
  obtain ⟨s2, rfl, _, _⟩ := a2
  have C2 := Lib.hid (c2.mono (show k + 2 + 30 * m ≤ k + 700 by have := HM.out; omega))
  have O2 := Lib.hid (O1.out.trans o2)
  have A2' := Lib.hid (ab_mono A2.out (show 6 * m ≤ 600 by have := HM.out; omega))
  clear c2 o2 A2 C1 O1
  go_wp2_with fail
  refine (pick_lt c _ 20 (by decide) (by have := HK.out; omega) (by decide) _ C2.out).mono ?_
  rintro e w3 ⟨v, rfl, ⟨r3, l3, rfl⟩, c3, o3⟩
  have C3 := Lib.hid c3
  have O3 := Lib.hid (O2.out.trans o3)
  have L3 := Lib.hid l3
  clear c3 o3 l3 C2 O2
  rcases (show r3 = 0 ∨ r3 = 1 ∨ r3 = 2 ∨ 3 ≤ r3 from by omega) with rfl | rfl | rfl | h3
  · go_wp2_with fail
    refine (spoilt_any c _ 600 s2 _ (by have := HK.out; omega) (by decide) A2'.out (by decide) (by decide) (by decide) _ C3.out).mono ?_
    rintro e w4 ⟨v, rfl, a4, c4, o4⟩
    have A4 := Lib.hid a4
    obtain ⟨s4, rfl, _, _⟩ := a4
    have C4 := Lib.hid c4
    have O4 := Lib.hid (O3.out.trans o4)
    clear c4 o4
    go_wp2_with fail
    go_ret
    exact ⟨.string s4, rfl, ab_mono A4.out (by decide), C4.out.mono (by omega), O4.out⟩
  · go_wp2_with fail
    go_loopg [7] (1000 - s2.size) (fun g s7 wr => ∃ s : ByteArray, s7 = .string s ∧ s.size + g = 1000 ∧ Hid (Ab 600 (.string s)) ∧ Hid (Cur wr c (k + 702 + s.size)) ∧ Hid (Only c w wr))
    case atStart => exact ⟨s2, rfl, by have := ab_of A2'.out; omega, A2', C3.out.mono (by omega), O3⟩
    case round =>
      obtain ⟨s, rfl, hg, hs, hC, hO⟩ := hrel
      have hz := ab_of hs.out
      go_wp2_with fail
      refine (pick_lt c _ 5 (by decide) (by have := HK.out; omega) (by decide) _ hC.out).mono ?_
      rintro e w4 ⟨v, rfl, ⟨r4, l4, rfl⟩, c4, o4⟩
      have C4 := Lib.hid c4
      have O4 := Lib.hid (hO.out.trans o4)
      have hw2 : IntKind.i64.wrap (300 + (r4 : Int)) = 300 + (r4 : Int) := by rw [IntKind.wrap_i64] <;> omega
      clear c4 o4 hC hO
      by_cases hlt : s.size < 300 + r4
      · have d1 : decide ((s.size : Int) < 300 + (r4 : Int)) = true := by simp; omega
        have HL := Lib.hid (And.intro hlt l4)
        have HG := Lib.hid hg
        clear hlt l4 hg
        go_wp2_with fail
        go_roundg (gk - 2)
        case rel =>
          refine ⟨_, rfl, ?_, ab_mono (ab_app (ab_lit ⟨#[126, 46]⟩ 2 rfl (by decide)) (show Ab 304 (.string s) from ?_)) (by decide), ?_, O4⟩
          · have := HG.out; have := HL.out; rw [ByteArray.size_append]; show 2 + s.size + _ = _; omega
          · obtain ⟨_, e, h1, h2⟩ := hs.out
            cases e
            exact ⟨_, rfl, by have := HL.out; omega, h2⟩
          · exact C4.out.mono (by rw [ByteArray.size_append]; show _ ≤ k + 702 + (2 + s.size); omega)
        case measure => have := HG.out; have := HL.out; omega
      · have d1 : decide ((s.size : Int) < 300 + (r4 : Int)) = false := by simp; omega
        clear hlt l4
        go_wp2_with fail
        go_ret
        exact ⟨.string s, rfl, ab_mono hs.out (by decide), C4.out.mono (by omega), O4.out⟩
  · go_wp2_with fail
    refine (sure_any 25 (by decide) (by decide) c _ b _ (by have := HK.out; omega) C3.out).mono ?_
    rintro e w4 ⟨v, rfl, a4, c4, o4⟩
    have A4 := Lib.hid a4
    obtain ⟨s4, rfl, _, _⟩ := a4
    have C4 := Lib.hid c4
    have O4 := Lib.hid (O3.out.trans o4)
    clear c4 o4
    go_wp2_with fail
    go_ret
    exact ⟨.string s4, rfl, ab_mono A4.out (by decide), C4.out.mono (by omega), O4.out⟩
  · have d1 : ((r3 : Int) == 0) = false := by simp; omega
    have d2 : ((r3 : Int) == 1) = false := by simp; omega
    have d3 : ((r3 : Int) == 2) = false := by simp; omega
    clear h3
    go_wp2_with fail
    go_ret
    exact ⟨.string s2, rfl, ab_mono A2'.out (by decide), C3.out.mono (by omega), O3.out⟩
end Go.Proofs.YtmfmagfgcdaeeaaGreat.T1

/- Paths that are drawn. No conditions. -/
namespace Go.Proofs.YtmfmagfgcdaeeaaGreat.T1
open Go.RowKit
set_option maxRecDepth 100000
set_option linter.unusedVariables false
set_option linter.unusedSimpArgs false

end Go.Proofs.YtmfmagfgcdaeeaaGreat.T1

/- What is drawn for the laws of terms. No conditions. -/
namespace Go.Proofs.YtmfmagfgcdaeeaaGreat.T1
open Go.RowKit
set_option maxRecDepth 100000
set_option linter.unusedVariables false
set_option linter.unusedSimpArgs false

/-- A slice of bytes that came in. -/
def Arg (w : World) (a : Option Addr) (n : Nat) : Prop := CodeIn w a n w.heap.size
theorem Arg.below {w w' : World} {a : Option Addr} {n : Nat} (h : Arg w a n) (k : Below w.heap.size w w') : Arg w' a n := by
  obtain ⟨h1, h | ⟨x, e, hx, h⟩⟩ := h
  · exact ⟨h1, .inl h⟩
  · refine ⟨h1, .inr ⟨x, e, Nat.lt_of_lt_of_le hx k.size, fun j hj => ?_⟩⟩
    obtain ⟨z, z0, z1, hz⟩ := h j hj
    refine ⟨z, z0, z1, ?_⟩
    rw [← hz]; unfold World.cell?; rw [add_blk, k.block _ hx]
theorem cur_new {w : World} {a : Option Addr} {n cap : Nat} (h : Arg w a n) : Cur (w.alloc (.cells #[.slice a n cap, .int .i64 0, .int .u64 0] 63)) w.heap.size 0 := by
  refine ⟨a, n, cap, 0, 0, ?_, Nat.le_refl _, ?_⟩
  · show (w.heap.push _)[w.heap.size]? = _
    rw [Array.getElem?_push_size]; rfl
  · obtain ⟨h1, h | ⟨x, e, hx, h⟩⟩ := h
    · exact ⟨h1, .inl h⟩
    · refine ⟨h1, .inr ⟨x, e, hx, fun j hj => ?_⟩⟩
      obtain ⟨z, z0, z1, hz⟩ := h j hj
      refine ⟨z, z0, z1, ?_⟩
      rw [← hz]; unfold World.cell?; rw [add_blk, Below.heap_alloc _ _ _ hx]
theorem only_new {w w' : World} {o : Obj} (h : Only w.heap.size (w.alloc o) w') : Below w.heap.size w w' :=
  Below.only ((Below.refl _ _).alloc (Nat.le_refl _) o) h (Nat.le_refl _) (by simp)

theorem dIsProcess_any (a : Option Addr) (n cap : Nat) (w : World) (hA : Arg w a n) : Calls Tryz.prog 58 #[.slice a n cap] w fun e w' => (∃ s, e = .returned (.string s) ∧ Ab 1000 (.string s)) ∧ Below w.heap.size w w' := by
  have HA := Lib.hid hA
  clear hA
  go_enter Tryz.func58, Tryz.ntmps58
  go_wp2_with fail
  refine (drProcess_any w.heap.size 0 12 false (by decide) (by decide) (by decide) _ (cur_new HA.out)).mono ?_
  rintro e w1 ⟨v, rfl, a1, c1, o1⟩
  have A1 := Lib.hid a1
  obtain ⟨s1, rfl, _, _⟩ := a1
  have O1 := Lib.hid (only_new o1)
  clear c1 o1
  go_wp2_with fail
  go_ret
  exact ⟨⟨s1, rfl, A1.out⟩, O1.out⟩

theorem dCanonicalNames_any (a : Option Addr) (n cap : Nat) (w : World) (hA : Arg w a n) : Calls Tryz.prog 8 #[.slice a n cap] w fun e w' => (∃ s, e = .returned (.string s) ∧ Ab 1000 (.string s)) ∧ Below w.heap.size w w' := by
  have H := Lib.hid (dIsProcess_any a n cap w hA)
  clear hA
  go_enter Tryz.func8, Tryz.ntmps8
  go_wp2_with fail
  refine H.out.mono ?_
  rintro e w1 ⟨⟨s1, rfl, a1⟩, b1⟩
  have A1 := Lib.hid a1
  clear a1
  go_wp2_with fail
  go_ret
  exact ⟨⟨s1, rfl, A1.out⟩, b1⟩

theorem dIsWellNamed_any (a : Option Addr) (n cap : Nat) (w : World) (hA : Arg w a n) : Calls Tryz.prog 17 #[.slice a n cap] w fun e w' => (∃ s, e = .returned (.string s) ∧ Ab 1000 (.string s)) ∧ Below w.heap.size w w' := by
  have H := Lib.hid (dIsProcess_any a n cap w hA)
  clear hA
  go_enter Tryz.func17, Tryz.ntmps17
  go_wp2_with fail
  refine H.out.mono ?_
  rintro e w1 ⟨⟨s1, rfl, a1⟩, b1⟩
  have A1 := Lib.hid a1
  clear a1
  go_wp2_with fail
  go_ret
  exact ⟨⟨s1, rfl, A1.out⟩, b1⟩

end Go.Proofs.YtmfmagfgcdaeeaaGreat.T1
