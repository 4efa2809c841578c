/- The subterm at a path, in the program. -/
import Derived.Test.YtpahhlcfbmmocaaPa
import Derived.Test.YtpahhlcfbmmocaaGood
import Derived.Test.YtpahhlcfbmmocaaBb
import Derived.Lib.OthersKept
import Derived.Deep.LoopGhost
import Derived.Laws.RangeAny
namespace Go.Proofs.Ytpahhlcfbmmocaa.T1
open Go.RowKit
set_option maxRecDepth 100000

/-- One step of the path, whatever the rune. -/
theorem atP_step (t : Tm) (path : ByteArray) (pos : Nat) (hp : pos < path.size) :
    (∀ p, stepN t (Utf8.decode path pos).1 = some p → (Utf8.decode path pos).2 = 1 ∧ atP t (path.data.toList.drop pos) = atP p (path.data.toList.drop (pos + 1))) ∧
    (stepN t (Utf8.decode path pos).1 = none → atP t (path.data.toList.drop pos) = none) := by
  rw [drop_at path pos hp]
  rcases Nat.lt_or_ge (path[pos]'hp).toNat 128 with h | h
  · rw [decode_ascii path pos hp h]
    refine ⟨fun p hs => ⟨rfl, ?_⟩, fun hs => ?_⟩
    · simp only [] at hs; simp only [atP, hs]
    · simp only [] at hs; simp only [atP, hs]
  · refine ⟨fun p hs => ?_, fun _ => ?_⟩
    · rw [step_high t _ (decode_high path pos hp h).1] at hs; cases hs
    · simp only [atP, step_high t _ h]

set_option maxHeartbeats 2000000 in
theorem subtermAt_any (t : Tm) (path : ByteArray) (w : World) : Calls Try.prog 44 #[.iface (tyOf t) (pay t), .string path] w (SubPost (atP t path.data.toList) w) := by
  obtain ⟨T, hT⟩ : ∃ T, T = tyOf t := ⟨_, rfl⟩
  obtain ⟨V, hV⟩ : ∃ V, V = pay t := ⟨_, rfl⟩
  rw [← hT, ← hV]
  have HTV : Hid (T = tyOf t ∧ V = pay t) := ⟨hT, hV⟩
  clear hT hV
  go_enter Try.func44, Try.ntmps44
  go_wp2_with fail
  go_loopw [0] (fun v wr => ∃ (t' : Tm) (T' : TypeId) (V' : Value) (pos : Nat), v = .iface T' V' ∧ Hid (T' = tyOf t' ∧ V' = pay t') ∧ Hid (wr.heap[w.heap.size]? = some (.stringIter path pos)) ∧ pos ≤ path.size ∧ Below w.heap.size w wr ∧ Hid (atP t' (path.data.toList.drop pos) = atP t path.data.toList)) (fun _ wr => path.size - wr.iterPos w.heap.size)
  case atStart => exact ⟨t, T, V, 0, rfl, HTV, World.iter_heap w path 0, Nat.zero_le _, (Below.refl _ _).alloc (Nat.le_refl _) _, by simp [Hid]⟩
  case round =>
    obtain ⟨t', T', V', pos, rfl, HT', hit, hple, hbw, H⟩ := hrel
    have hpos0 := Lib.hid (iterPos_of' hit.out)
    by_cases hp : pos < path.size
    · obtain ⟨r, hr⟩ : ∃ r, r = (Utf8.decode path pos).1 := ⟨_, rfl⟩
      obtain ⟨d, hd⟩ : ∃ d, d = (Utf8.decode path pos).2 := ⟨_, rfl⟩
      have hst := atP_step t' path pos hp
      have hle := decode_le path pos
      have hnx : ∀ ty, (Instr.next (.pointer (some ⟨w.heap.size, 0, none⟩)) true ty).run Try.prog wr = .ok (.tuple #[.bool true, .int .i64 (pos : Int), .int .i32 (r : Int)]) (wr.iterAt w.heap.size path (pos + d)) := fun ty => by
        rw [hr, hd]; exact Lib.run_next_any_at wr w.heap.size path pos ty hit.out hp
      rw [← hr] at hle
      rw [← hr, ← hd] at hst
      have hit2 := Lib.hid (Lib.iterAt_heap wr w.heap.size path pos (pos + d) hit.out)
      have hbw2 := Lib.below_iterAt hbw (k := w.heap.size) (Nat.le_refl _) path (pos + d)
      have HST := Lib.hid hst
      have HPA : Hid (∀ w, Calls Try.prog 64 #[.iface T' V', .int .i32 (r : Int)] w (SubPost (stepN t' r) w)) := by
        rw [HT'.out.1, HT'.out.2]; exact fun w => partAt_any t' r hle w
      clear hr hd hst hle
      obtain ⟨W1, hW1⟩ : ∃ W1, W1 = wr.iterAt w.heap.size path (pos + d) := ⟨_, rfl⟩
      rw [← hW1] at hnx hit2 hbw2
      clear hW1
      go_wp2_with fail
      refine (HPA.out _).mono ?_
      rintro e w2 ⟨(⟨p, h1, rfl⟩ | ⟨h1, rfl⟩), b2⟩
      · obtain ⟨hd1, hat⟩ := HST.out.1 p h1
        have Hat : Hid (atP p (path.data.toList.drop (pos + 1)) = atP t path.data.toList) := hat.symm.trans H.out
        have hit3 := Lib.hid (iter_below hit2.out b2)
        rw [hd1] at hit3
        have hbw3 := below_trans hbw2 b2 hbw2.size
        obtain ⟨T2, hT2⟩ : ∃ T, T = tyOf p := ⟨_, rfl⟩
        obtain ⟨V2, hV2⟩ : ∃ V, V = pay p := ⟨_, rfl⟩
        rw [← hT2, ← hV2]
        have HT2 : Hid (T2 = tyOf p ∧ V2 = pay p) := ⟨hT2, hV2⟩
        clear hT2 hV2 h1 hd1 hat hnx
        go_wp2_with fail
        go_roundw
        case rel => exact ⟨p, T2, V2, pos + 1, rfl, HT2, hit3, by omega, hbw3, Hat⟩
        case measure => rw [iterPos_of' hit3.out, hpos0.out]; omega
      · have Hat : Hid (atP t path.data.toList = none) := H.out.symm.trans (HST.out.2 h1)
        have hbw3 := below_trans hbw2 b2 hbw2.size
        clear h1 hnx
        go_wp2_with fail
        go_ret2
        exact SubPost.no Hat.out ⟨rfl, hbw3⟩
    · have hnx : ∀ ty, (Instr.next (.pointer (some ⟨w.heap.size, 0, none⟩)) true ty).run Try.prog wr = .ok (.tuple #[.bool false]) wr := fun ty => Lib.run_next_end_at wr w.heap.size path pos ty hit.out hp
      have Hat : Hid (atP t path.data.toList = some t') := by
        have := H.out
        rw [List.drop_of_length_le (by simp; omega)] at this
        exact this.symm
      go_wp2_with fail
      go_ret2
      exact SubPost.yes Hat.out ⟨by rw [← HT'.out.1, ← HT'.out.2]; rfl, hbw⟩

end Go.Proofs.Ytpahhlcfbmmocaa.T1
