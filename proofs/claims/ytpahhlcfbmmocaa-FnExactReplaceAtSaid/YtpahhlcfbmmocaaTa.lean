/- The subterm at a path in the specification, and that it is a smaller process. -/
import Derived.Test.YtpahhlcfbmmocaaPa
namespace Go.Proofs.Ytpahhlcfbmmocaa.T1
open Go.RowKit
set_option maxRecDepth 100000

def AtPost (o : Option Tm) (w : World) (e : Ending) (w' : World) : Prop :=
  ((∃ p, o = some p ∧ e = .returned (.tuple #[.string (S p), .bool true])) ∨ (o = none ∧ e = .returned (.tuple #[.string ⟨#[]⟩, .bool false]))) ∧ Below w.heap.size w w'
theorem AtPost.no {w : World} {e : Ending} {w' : World} {o : Option Tm} (ho : o = none) (h : e = .returned (.tuple #[.string ⟨#[]⟩, .bool false]) ∧ Below w.heap.size w w') : AtPost o w e w' := ⟨.inr ⟨ho, h.1⟩, h.2⟩
theorem AtPost.yes {w : World} {e : Ending} {w' : World} {o : Option Tm} {p : Tm} (ho : o = some p) (h : e = .returned (.tuple #[.string (S p), .bool true]) ∧ Below w.heap.size w w') : AtPost o w e w' := ⟨.inl ⟨p, ho, h.1⟩, h.2⟩
theorem atP_fail (t : Tm) (path : ByteArray) (k : Nat) (h : k < path.size) (hs : stepN t (path[k]'h).toNat = none) : atP t (path.data.toList.drop k) = none := by
  rw [drop_at path k h]; simp only [atP, hs]
theorem atP_ok (t : Tm) {p : Tm} (path : ByteArray) (k : Nat) (h : k < path.size) (hs : stepN t (path[k]'h).toNat = some p) : atP t (path.data.toList.drop k) = atP p (path.data.toList.drop (k + 1)) := by
  rw [drop_at path k h]; simp only [atP, hs]
theorem sub_parts (t p : Tm) (h : p ∈ t.parts) : (∀ nm, t.ok nm = true → p.ok nm = true) ∧ p.pr.length ≤ t.pr.length := by
  cases t <;> simp [Tm.parts] at h
  case sum a b =>
    rcases h with rfl | rfl
    · exact ⟨fun nm h => by simp only [Tm.ok, Bool.and_eq_true] at h; exact h.1, by simp [Tm.pr]; omega⟩
    · exact ⟨fun nm h => by simp only [Tm.ok, Bool.and_eq_true] at h; exact h.2, by simp [Tm.pr]; omega⟩
  case par a b =>
    rcases h with rfl | rfl
    · exact ⟨fun nm h => by simp only [Tm.ok, Bool.and_eq_true] at h; exact h.1, by simp [Tm.pr]; omega⟩
    · exact ⟨fun nm h => by simp only [Tm.ok, Bool.and_eq_true] at h; exact h.2, by simp [Tm.pr]; omega⟩
  all_goals (subst h; refine ⟨fun nm h => ?_, ?_⟩)
  all_goals first
    | (simp only [Tm.ok, Bool.and_eq_true] at h; exact h.2)
    | (simp only [Tm.ok] at h; exact h)
    | (simp [Tm.pr]; try omega)
theorem stepN_mem (t p : Tm) (r : Nat) (h : stepN t r = some p) : p ∈ t.parts := by
  unfold stepN at h
  split at h
  · cases h
  · exact List.mem_of_getElem? h
theorem atP_sub (l : List UInt8) : ∀ (t p : Tm), atP t l = some p → (∀ nm, t.ok nm = true → p.ok nm = true) ∧ p.pr.length ≤ t.pr.length := by
  induction l with
  | nil => intro t p h; simp only [atP, Option.some.injEq] at h; subst h; exact ⟨fun _ h => h, Nat.le_refl _⟩
  | cons c l ih =>
    intro t p h
    simp only [atP] at h
    split at h
    · rename_i q hq
      have h1 := sub_parts t q (stepN_mem t q _ hq)
      have h2 := ih q p h
      exact ⟨fun nm h => h2.1 nm (h1.1 nm h), Nat.le_trans h2.2 h1.2⟩
    · cases h

set_option maxHeartbeats 4000000 in
theorem tmAt_any (t : Tm) (ho : t.ok nmE = true) (hl : t.pr.length ≤ 700) (path : ByteArray) (hps : path.size ≤ 100000000) (w : World) : Calls Try.prog 43 #[.string (S t), .string path] w (AtPost (atP t path.data.toList) w) := by
  obtain ⟨X, hX⟩ : ∃ X, X = S t := ⟨_, rfl⟩
  rw [← hX]
  have HX := Lib.hid hX
  have HO := Lib.hid ho
  have HLN := Lib.hid hl
  clear hX ho hl
  go_enter Try.func43, Try.ntmps43
  go_wp2_with fail
  go_loopw [0, 6] (fun v i wr => ∃ (t' : Tm) (X' : ByteArray) (k : Nat), v = .string X' ∧ Hid (X' = S t') ∧ i = .int .i64 (k : Int) ∧ k ≤ path.size ∧ Hid (t'.ok nmE = true) ∧ Hid (t'.pr.length ≤ 700) ∧ Below w.heap.size w wr ∧ Hid (atP t' (path.data.toList.drop k) = atP t path.data.toList)) (fun _ i _ => path.size - (intOf i).toNat)
  case atStart => exact ⟨t, X, 0, rfl, HX, rfl, Nat.zero_le _, HO, HLN, Below.refl _ _, by simp [Hid]⟩
  case round =>
    obtain ⟨t', X', k, rfl, HX', rfl, hk, hok, hln, hbw, H⟩ := hrel
    by_cases hlt : k < path.size
    · have hP : ∀ w, Calls Try.prog 40 #[.string X'] w (PartsS t'.parts w) := by rw [HX'.out]; exact tmParts_any t' hok.out hln.out
      have hby : (path[k]'hlt).toNat < 256 := (path[k]'hlt).toNat_lt
      rcases parts_cases t' with h1 | ⟨p, h1⟩ | ⟨p, q, h1⟩
      · rw [h1] at hP
        have HP := Lib.hid hP
        have hno : stepN t' (path[k]'hlt).toNat = none := by unfold stepN; rw [h1]; simp
        clear hP
        rcases Nat.lt_or_ge (path[k]'hlt).toNat 48 with hc | hc
        · clear h1
          have Hat : Hid (atP t path.data.toList = none) := H.out.symm.trans (atP_fail t' path k hlt hno)
          clear hno

          go_wp2_with fail
          refine (HP.out _).mono ?_
          rintro e w2 ⟨rfl, b2⟩
          have hbw3 := below_trans hbw b2 hbw.size
          go_wp2_with fail
          go_ret2
          exact AtPost.no Hat.out ⟨rfl, hbw3⟩
        · clear h1
          have Hat : Hid (atP t path.data.toList = none) := H.out.symm.trans (atP_fail t' path k hlt hno)
          clear hno

          go_wp2_with fail
          refine (HP.out _).mono ?_
          rintro e w2 ⟨rfl, b2⟩
          have hbw3 := below_trans hbw b2 hbw.size
          go_wp2_with fail
          go_ret2
          exact AtPost.no Hat.out ⟨rfl, hbw3⟩
      · rw [h1] at hP
        have HP := Lib.hid (show ∀ w, Calls Try.prog 40 #[.string X'] w fun e w' => ∃ b, e = .returned (.slice (some ⟨b, 0, none⟩) 1 1) ∧ w.heap.size ≤ b ∧ w'.heap[b]? = some (.cells #[.string (S p)] 9 (0, 0)) ∧ Below w.heap.size w w' from hP)
        clear hP
        rcases Nat.lt_or_ge (path[k]'hlt).toNat 48 with hc | hc
        · have hno : stepN t' (path[k]'hlt).toNat = none := by unfold stepN; rw [if_pos hc]
          clear h1
          have Hat : Hid (atP t path.data.toList = none) := H.out.symm.trans (atP_fail t' path k hlt hno)
          clear hno

          go_wp2_with fail
          refine (HP.out _).mono ?_
          rintro e w2 ⟨b, rfl, hbb, hh, b2⟩
          have c0 := cellOf1 hh
          clear hh
          have hbw3 := below_trans hbw b2 hbw.size
          go_wp2_with fail
          go_ret2
          exact AtPost.no Hat.out ⟨rfl, hbw3⟩
        · rcases Nat.lt_or_ge 48 (path[k]'hlt).toNat with hg | hg
          · have hno : stepN t' (path[k]'hlt).toNat = none := by unfold stepN; rw [h1, if_neg (by omega)]; simp; omega
            clear h1
            have Hat : Hid (atP t path.data.toList = none) := H.out.symm.trans (atP_fail t' path k hlt hno)
            clear hno

            go_wp2_with fail
            refine (HP.out _).mono ?_
            rintro e w2 ⟨b, rfl, hbb, hh, b2⟩
            have c0 := cellOf1 hh
            clear hh
            have hbw3 := below_trans hbw b2 hbw.size
            go_wp2_with fail
            go_ret2
            exact AtPost.no Hat.out ⟨rfl, hbw3⟩
          · have hyes : stepN t' (path[k]'hlt).toNat = some p := by unfold stepN; rw [h1, if_neg (by omega), show (path[k]'hlt).toNat - 48 = 0 by omega]; rfl
            have Hat : Hid (atP p (path.data.toList.drop (k + 1)) = atP t path.data.toList) := (atP_ok t' path k hlt hyes).symm.trans H.out
            have hp := sub_parts t' p (by rw [h1]; simp)
            have hok2 : Hid (p.ok nmE = true) := hp.1 nmE hok.out
            have hln2 : Hid (p.pr.length ≤ 700) := Nat.le_trans hp.2 hln.out
            obtain ⟨X2, hX2⟩ : ∃ X, X = S p := ⟨_, rfl⟩
            rw [← hX2] at HP
            clear h1
            have HX2 := Lib.hid hX2
            clear hyes hp hX2
            have hq : ((path[k]'hlt).toNat : Int) = 48 := by omega
            go_wp2_with fail
            refine (HP.out _).mono ?_
            rintro e w2 ⟨b, rfl, hbb, hh, b2⟩
            have c0 := cellOf1 hh
            clear hh
            have hbw3 := below_trans hbw b2 hbw.size
            go_wp2_with fail
            go_roundw
            case rel => exact ⟨p, X2, k + 1, rfl, HX2, by go_num, by omega, hok2, hln2, hbw3, Hat⟩
            case measure => simp [intOf]; omega
      · rw [h1] at hP
        have HP := Lib.hid (show ∀ w, Calls Try.prog 40 #[.string X'] w fun e w' => ∃ b, e = .returned (.slice (some ⟨b, 0, none⟩) 2 2) ∧ w.heap.size ≤ b ∧ w'.heap[b]? = some (.cells #[.string (S p), .string (S q)] 9 (0, 0)) ∧ Below w.heap.size w w' from hP)
        clear hP
        rcases Nat.lt_or_ge (path[k]'hlt).toNat 48 with hc | hc
        · have hno : stepN t' (path[k]'hlt).toNat = none := by unfold stepN; rw [if_pos hc]
          clear h1
          have Hat : Hid (atP t path.data.toList = none) := H.out.symm.trans (atP_fail t' path k hlt hno)
          clear hno

          go_wp2_with fail
          refine (HP.out _).mono ?_
          rintro e w2 ⟨b, rfl, hbb, hh, b2⟩
          have c0 := cellOf2a hh
          clear hh
          have hbw3 := below_trans hbw b2 hbw.size
          go_wp2_with fail
          go_ret2
          exact AtPost.no Hat.out ⟨rfl, hbw3⟩
        · rcases Nat.lt_or_ge 49 (path[k]'hlt).toNat with hg | hg
          · have hno : stepN t' (path[k]'hlt).toNat = none := by unfold stepN; rw [h1, if_neg (by omega)]; simp; omega
            clear h1
            have Hat : Hid (atP t path.data.toList = none) := H.out.symm.trans (atP_fail t' path k hlt hno)
            clear hno

            go_wp2_with fail
            refine (HP.out _).mono ?_
            rintro e w2 ⟨b, rfl, hbb, hh, b2⟩
            have c0 := cellOf2a hh
            clear hh
            have hbw3 := below_trans hbw b2 hbw.size
            go_wp2_with fail
            go_ret2
            exact AtPost.no Hat.out ⟨rfl, hbw3⟩
          · rcases Nat.lt_or_ge 48 (path[k]'hlt).toNat with hg2 | hg2
            · have hyes : stepN t' (path[k]'hlt).toNat = some q := by unfold stepN; rw [h1, if_neg (by omega), show (path[k]'hlt).toNat - 48 = 1 by omega]; rfl
              have Hat : Hid (atP q (path.data.toList.drop (k + 1)) = atP t path.data.toList) := (atP_ok t' path k hlt hyes).symm.trans H.out
              have hq := sub_parts t' q (by rw [h1]; simp)
              have hok2 : Hid (q.ok nmE = true) := hq.1 nmE hok.out
              have hln2 : Hid (q.pr.length ≤ 700) := Nat.le_trans hq.2 hln.out
              obtain ⟨X2, hX2⟩ : ∃ X, X = S q := ⟨_, rfl⟩
              rw [← hX2] at HP
              clear h1
              have HX2 := Lib.hid hX2
              clear hyes hq hX2
              have hq : ((path[k]'hlt).toNat : Int) = 49 := by omega
              go_wp2_with fail
              refine (HP.out _).mono ?_
              rintro e w2 ⟨b, rfl, hbb, hh, b2⟩
              have c0 := cellOf2b hh
              clear hh
              have hbw3 := below_trans hbw b2 hbw.size
              go_wp2_with fail
              go_roundw
              case rel => exact ⟨q, X2, k + 1, rfl, HX2, by go_num, by omega, hok2, hln2, hbw3, Hat⟩
              case measure => simp [intOf]; omega
            · have hyes : stepN t' (path[k]'hlt).toNat = some p := by unfold stepN; rw [h1, if_neg (by omega), show (path[k]'hlt).toNat - 48 = 0 by omega]; rfl
              have Hat : Hid (atP p (path.data.toList.drop (k + 1)) = atP t path.data.toList) := (atP_ok t' path k hlt hyes).symm.trans H.out
              have hp := sub_parts t' p (by rw [h1]; simp)
              have hok2 : Hid (p.ok nmE = true) := hp.1 nmE hok.out
              have hln2 : Hid (p.pr.length ≤ 700) := Nat.le_trans hp.2 hln.out
              obtain ⟨X2, hX2⟩ : ∃ X, X = S p := ⟨_, rfl⟩
              rw [← hX2] at HP
              clear h1
              have HX2 := Lib.hid hX2
              clear hyes hp hX2
              have hq : ((path[k]'hlt).toNat : Int) = 48 := by omega
              go_wp2_with fail
              refine (HP.out _).mono ?_
              rintro e w2 ⟨b, rfl, hbb, hh, b2⟩
              have c0 := cellOf2a hh
              clear hh
              have hbw3 := below_trans hbw b2 hbw.size
              go_wp2_with fail
              go_roundw
              case rel => exact ⟨p, X2, k + 1, rfl, HX2, by go_num, by omega, hok2, hln2, hbw3, Hat⟩
              case measure => simp [intOf]; omega
    · have Hat : Hid (atP t path.data.toList = some t') := by
        have := H.out
        rw [List.drop_of_length_le (by simp; omega)] at this
        exact this.symm
      go_wp2_with fail
      go_ret2
      exact AtPost.yes Hat.out ⟨by rw [← HX'.out]; rfl, hbw⟩

end Go.Proofs.Ytpahhlcfbmmocaa.T1
