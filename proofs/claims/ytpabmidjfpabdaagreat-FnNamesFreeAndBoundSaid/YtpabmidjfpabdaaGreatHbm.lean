/- Texts of the proof, put together: Nb. No conditions. -/
import Derived.Test.YtpabmidjfpabdaaGreatHaz
import Derived.Test.YtpabmidjfpabdaaGreatHbj
import Derived.Test.YtpabmidjfpabdaaGreatHbl

/- A process with a name of its own for each sign that binds: in the program. -/
namespace Go.Proofs.YtpabmidjfpabdaaGreat.T1
open Go.RowKit
set_option maxRecDepth 100000
set_option linter.unusedVariables false
set_option linter.unusedSimpArgs false

def EncQ (t : Tm) (w : World) (e : Ending) (w' : World) : Prop := e = .returned (.iface (tyOf t) (pay t)) ∧ Below w.heap.size w w'
theorem marksN_at (k : Nat) (h : k < 133) : marksN[k]'(by rw [marksN_len]; exact h) = UInt8.ofNat (123 + k) := by unfold marksN; simp
theorem marksN_succ (k : Nat) (h : k < 133) : (marksN.take (k + 1)).map ub = (marksN.take k).map ub ++ [.int .u8 (123 + (k : Int))] := by
  rw [List.take_succ_eq_append_getElem (by rw [marksN_len]; exact h), List.map_append, marksN_at k h]
  congr 1
  show [ub (UInt8.ofNat (123 + k))] = _
  unfold ub
  rw [UInt8.toNat_ofNat', Nat.mod_eq_of_lt (by omega)]
  push_cast; rfl
/-- A row of names that is owned is a slice of names. -/
theorem NmS.of_own {w : World} {base g : Nat} {v : Value} {ns : List UInt8} (h : w.ownsRow base 5 1 v ns.length (ns.map ub)) (hg : v.ownBlock = some g ∨ ns = []) : NmS w g v ns := by
  rcases h.2 with ⟨h1, h2⟩ | ⟨g', cap, cur, h1, _, h3, h4, _, _, h7⟩
  · have : ns = [] := List.length_eq_zero_iff.1 h2
    subst this
    exact ⟨_, _, h1, Nat.le_refl _, fun h => absurd rfl h⟩
  · subst h1
    refine ⟨_, _, rfl, h4, fun hne => ⟨0, ?_, fun j hj => ?_⟩⟩
    · rcases hg with hg | hg
      · simp [Value.ownBlock] at hg; rw [hg]
      · exact absurd hg hne
    · rcases hg with hg | hg
      · simp [Value.ownBlock] at hg
        subst hg
        rw [Nat.zero_add]
        have h8 : cur.toList[j]? = some (.int .u8 (ns[j].toNat : Int)) := by
          have : (cur.toList.take (ns.length * 1))[j]? = (ns.map ub)[j]? := by rw [h7]
          rw [List.getElem?_take, if_pos (by omega), List.getElem?_map, List.getElem?_eq_getElem hj] at this
          exact this
        rw [cell_of_row w _ j cur _ _ h3, ← h8]; simp
      · exact absurd hg hne
set_option maxHeartbeats 2000000 in
theorem numbered0 (T T2 : TypeId) (V V2 : Value) (hS : ∀ w, Calls Tryz.prog 74 #[] w fun e w' => ∃ C, e = .returned (.agg C) ∧ ScOf C id ∧ Below w.heap.size w w')
    (hBI : ∀ C v g w, ScOf C id → g ≤ w.heap.size → NmS w g v marksN → Calls Tryz.prog 73 #[.iface T V, .agg C, v] w fun e w' => ∃ v', e = .returned (.tuple #[.iface T2 V2, v']) ∧ Below w.heap.size w w') (w : World) :
    Calls Tryz.prog 37 #[.iface T V] w fun e w' => e = .returned (.iface T2 V2) ∧ Below w.heap.size w w' := by
  obtain ⟨i0, hi, hz0, hz1, hz2⟩ := info_parts Tryz.infoU8
  have HS := Lib.hid hS
  have HBI := Lib.hid hBI
  clear hS hBI
  go_enter Tryz.func37, Tryz.ntmps37
  go_wp2_with fail
  go_loopw [3, 4] (fun v i wr => ∃ k : Nat, k ≤ 133 ∧ i = .int .i32 (123 + (k : Int)) ∧ Hid (wr.ownsRow w.heap.size 5 1 v k ((marksN.take k).map ub)) ∧ Below w.heap.size w wr) (fun _ i _ => 300 - (intOf i).toNat)
  case atStart => exact ⟨0, Nat.zero_le _, rfl, World.ownsRow_nil _ _ _ _, Below.refl _ _⟩
  case round =>
    obtain ⟨k, hk, rfl, hown, hbw⟩ := hrel
    by_cases hlt : k < 133
    · have hsz := hbw.size
      have hms := Lib.hid (marksN_succ k hlt)
      have hw8 : IntKind.u8.wrap (123 + (k : Int)) = 123 + (k : Int) := by rw [IntKind.wrap_u8] <;> omega
      have Hb := Lib.hid hbw
      clear hbw
      go_wp2_with (at_builtin; refine wpList_append_own _ rfl (.tmp 9) (.tmp 12) 22 rfl w.heap.size 5 i0 (.int .u8 0) 1 1 Tryz.underlying22 hi hz0 hz1 hz2 rfl (by decide) _ _ _ rfl (hown.out.alloc _) ⟨wr.heap.size, 0, none⟩ 1 1 [.int .u8 (123 + (k : Int))] rfl rfl (cell_row wr [.int .u8 (123 + (k : Int))] 5) (fun u hu => by simp at hu; subst hu; rfl) ?c2 ?c3 ?c4 ?_)
      case c2 => unfold maxLen; omega
      case c3 => omega
      case c4 => first | omega | (simp; omega)
      intro v1 w1 hown1 hgrow1 _
      have hbw1 : Below w.heap.size w w1 := Below.grown (Hb.out.alloc hsz _) hgrow1 (by simp; omega) (fun j hj => by
        rcases hown.out.2 with ⟨rfl, _⟩ | ⟨g, cap, cur, rfl, h1, _⟩
        · simp [Value.ownBlock] at hj
        · simp [Value.ownBlock] at hj; omega)
      have HO : Hid (w1.ownsRow w.heap.size 5 1 v1 (k + 1) ((marksN.take (k + 1)).map ub)) := by
        show World.ownsRow _ _ _ _ _ _ _
        rw [hms.out, List.map_take]; exact hown1
      clear hown1 hgrow1 hw8
      go_wp2_with fail
      go_roundw
      case rel => exact ⟨k + 1, by omega, by push_cast; first | rfl | (congr 1; omega), HO, hbw1⟩
      case measure => simp [intOf] <;> omega
    · obtain rfl : k = 133 := by omega
      have hmt : marksN.take 133 = marksN := List.take_of_length_le (by rw [marksN_len]; exact Nat.le_refl _)
      have ho := hown.out
      rw [hmt] at ho
      have hml : (133 : Nat) = marksN.length := marksN_len.symm
      rw [hml] at ho
      obtain ⟨g, hg⟩ : ∃ g, u3.ownBlock = some g := by
        rcases ho.2 with ⟨_, h⟩ | ⟨g, cap, cur, h, _⟩
        · rw [marksN_len] at h; omega
        · exact ⟨g, by rw [h]; rfl⟩
      have HN := Lib.hid (NmS.of_own ho (.inl hg))
      have hgl : g < wr.heap.size := (ho.lt g hg).2
      have Hb := Lib.hid hbw
      clear ho hmt hml hg hbw
      go_wp2_with fail
      refine (HS.out _).mono ?_
      rintro e w1 ⟨C1, rfl, hsc, b1⟩
      have HSC := Lib.hid hsc
      have Hb1 := Lib.hid (below_go Hb.out b1)
      have HN1 := Lib.hid (HN.out.below b1)
      have hg1 : g ≤ w1.heap.size := Nat.le_trans (Nat.le_of_lt hgl) b1.size
      clear hsc b1
      go_wp2_with fail
      refine (HBI.out _ _ _ _ HSC.out hg1 HN1.out).mono ?_
      rintro e w2 ⟨v2, rfl, b2⟩
      have bl2 := below_go Hb1.out b2
      go_wp2_with fail
      go_ret
      exact ⟨rfl, bl2⟩
theorem numbered_any (t : Tm) (ht : t.ok nmL = true) (hb : t.bnd.length ≤ 133) (w : World) : Calls Tryz.prog 37 #[.iface (tyOf t) (pay t)] w (EncQ (can t id marksN) w) :=
  numbered0 _ _ _ _ (fun w => freeScope_any w) (fun C v g w hsc hg hn => (bindInOrder_any t id C marksN v g w ht hsc hg hn (by rw [marksN_len]; exact hb)).mono fun e w' ⟨v', h1, _, h3⟩ => ⟨v', h1, h3⟩) w

end Go.Proofs.YtpabmidjfpabdaaGreat.T1
