/- Texts of the proof, put together: Ct. No conditions. -/
import Derived.Test.YtohaddhjnghcpaaDoorHbb
import Derived.Test.YtohaddhjnghcpaaDoorHbc
import Derived.Test.YtohaddhjnghcpaaDoorHbh
import Derived.Test.YtohaddhjnghcpaaDoorHbi
import Derived.Lib.FieldsU
import Derived.Lib.RuneCount

/- A text cut into its pieces by strings.Split at no byte, whatever the text: the pieces put together are the text. No conditions. -/
namespace Go.Proofs.YtohaddhjnghcpaaDoor.T1
open Go.RowKit
set_option maxRecDepth 100000
set_option linter.unusedVariables false
set_option linter.unusedSimpArgs false

theorem dg_le (s : ByteArray) : (Lib.decodeGo s).2 ≤ s.size := by
  unfold Lib.decodeGo
  split
  · omega
  · rename_i h
    rw [Lib.decode_at]
    exact Lib.decodeN_le_n' _ _ _ _ _ (by omega)
theorem rc_pos (s : ByteArray) (h : 1 ≤ s.size) : 1 ≤ Lib.runeCount s := by
  unfold Lib.runeCount
  obtain ⟨n, hn⟩ : ∃ n, s.size = n + 1 := ⟨s.size - 1, by omega⟩
  rw [hn]
  simp only [Lib.runeCountFrom]
  rw [if_pos (by omega)]
  omega
theorem tabs_below {w w' : World} (h : Lib.Utf8Tabs 1 2 w) (k : Below w.heap.size w w') : Lib.Utf8Tabs 1 2 w' := by
  refine ⟨fun c hc => ?_, fun i hi => ?_⟩
  · have h1 := h.1 c hc
    exact (k.cell (p := ⟨1, c, none⟩) (World.block_lt_of_cell? w _ h1)).trans h1
  · obtain ⟨h1, h2⟩ := h.2 i hi
    exact ⟨(k.cell (p := ⟨2, 2 * i, none⟩) (World.block_lt_of_cell? w _ h1)).trans h1, (k.cell (p := ⟨2, 2 * i + 1, none⟩) (World.block_lt_of_cell? w _ h2)).trans h2⟩
theorem iter_bl (w : World) (s : ByteArray) (p : Nat) : Below w.heap.size w (w.iter s p) := by
  unfold World.iter
  exact (Below.refl _ _).alloc (Nat.le_refl _) _

/-- The pieces as a block. -/
def Pcs (s : ByteArray) (w : World) (e : Ending) (w' : World) : Prop :=
  ∃ (L : List ByteArray) (b : Nat), e = .returned (.slice (some ⟨b, 0, none⟩) L.length L.length) ∧ w.heap.size ≤ b ∧ w'.heap[b]? = some (.cells (L.map Value.string).toArray 9 (0, 0)) ∧ L ≠ [] ∧ L.length ≤ 4 ∧ (L.map (·.data.toList)).flatten = s.data.toList ∧ Below w.heap.size w w'

set_option maxHeartbeats 4000000 in
theorem explode_any (s : ByteArray) (h1 : 1 ≤ s.size) (h4 : s.size ≤ 4) (w : World) (hT : Lib.Utf8Tabs 1 2 w) :
    Calls Tryd.prog 71 #[.string s, .int .i64 (-1)] w (Pcs s w) := by
  have HR := Lib.hid (Tryd.utf8_RuneCountInString s w (by omega))
  obtain ⟨n, hn⟩ : ∃ n, n = Lib.runeCount s := ⟨_, rfl⟩
  have hn1 : 1 ≤ n := by rw [hn]; exact rc_pos s h1
  have hn4 : n ≤ 4 := by rw [hn]; exact Nat.le_trans (Lib.runeCount_le s) h4
  rw [← hn] at HR
  have HT := Lib.hid hT
  have HD := Lib.hid (Tryd.utf8_DecodeRuneInString)
  clear hn hT
  have hmk := run_make_row' (P := Tryd.prog) 65 9 (.string ⟨#[]⟩) 16 Tryd.underlying65 (by kernel_rfl) rfl .i64 .i64 n (by omega) (by omega)
  have i1 : ¬ (0 : Int) ≤ -1 := by omega
  go_enter Tryd.func71, Tryd.ntmps71
  go_wp2_with fail
  with_reducible refine (HR.out).mono ?_
  rintro e w1 ⟨rfl, pos, hw1⟩
  have b1 : Below w.heap.size w w1 := by rw [hw1]; exact iter_bl w s pos
  clear hw1 HR
  go_wp2_with fail
  obtain ⟨W, hW⟩ : ∃ W, W = w1.alloc (.cells (madeCells #[.string ⟨#[]⟩] n) 9) := ⟨_, rfl⟩
  have hb0 : W.heap[w1.heap.size]? = some (.cells (Lib.cellsOf [] n) 9 (0, 0)) := by
    rw [hW, Lib.cellsOf_nil]; exact heap_alloc_new w1 _
  have bW : Below w.heap.size w W := by rw [hW]; exact b1.alloc b1.size _
  have hbs := b1.size
  rw [← hW]
  obtain ⟨b, hb⟩ : ∃ b, b = w1.heap.size := ⟨_, rfl⟩
  rw [← hb] at hb0 hbs ⊢
  have HB0 := Lib.hid hb0
  have BW := Lib.hid bW
  clear hW hb hb0 bW hmk b1
  go_loopg [0, 7] (n - 1) (fun g s0 s7 wr => ∃ (done : List ByteArray) (R : ByteArray), s0 = .string R ∧ s7 = .int .i64 (done.length : Int) ∧ done.length + g = n - 1 ∧ R.size ≤ 4 ∧ Hid ((done.map (·.data.toList)).flatten ++ R.data.toList = s.data.toList) ∧ Hid (wr.heap[b]? = some (.cells (Lib.cellsOf done n) 9 (0, 0))) ∧ Hid (Below w.heap.size w wr))
  case atStart => exact ⟨[], s, rfl, rfl, by simp, h4, by show _ = _; simp, HB0.out, BW.out⟩
  case round =>
    obtain ⟨done, R, rfl, rfl, hdg, hR4, hj, hcl, hbl⟩ := hrel
    have hw1 : IntKind.i64.wrap ((n : Int) - 1) = (n : Int) - 1 := IntWalk.i64_in _ (by omega)
    cases gk with
    | zero =>
      have hlt : ¬ ((done.length : Int) < (n : Int) - 1) := by omega
      have hn0 : (0 : Int) < (n : Int) := by omega
      have hdl : (n : Int) - 1 = (done.length : Int) := by omega
      have hnext := Lib.cellsOf_next (done := done) (N := n) (by omega)
      have c1 := cellsAt hcl.out done.length _ hnext
      have f1 := cellsFree hcl.out done.length
      have hs1 := set_cells hcl.out done.length (.string R)
      rw [Lib.cellsOf_set (by omega)] at hs1
      have hfull : Hid (Lib.cellsOf (done ++ [R]) n = ((done ++ [R]).map Value.string).toArray) := by
        show _ = _
        have := Lib.cellsOf_full (done ++ [R])
        rwa [show (done ++ [R]).length = n by simp; omega] at this
      have HS1 := Lib.hid hs1
      have hd1 : (done.length : Int) < (n : Int) := by omega
      have hd0 : (0 : Int) ≤ (done.length : Int) := by omega
      obtain ⟨d, hd⟩ : ∃ d, d = done.length := ⟨_, rfl⟩
      rw [← hd] at hlt hdl c1 f1 HS1 hd1 hd0 ⊢
      have HDD := Lib.hid hd
      clear hs1 hnext hd
      go_wp2_with fail
      go_ret
      refine ⟨done ++ [R], b, ?_, by omega, by rw [← hfull.out]; exact HS1.out, by simp, by have := HDD.out; simp; omega, ?_, hbl.out.setCell (p := ⟨b, d, none⟩) hbs _⟩
      · have : (done ++ [R]).length = n := by have := HDD.out; simp; omega
        rw [this]; rfl
      · rw [← hj.out]; simp
    | succ g =>
      have hlt : (done.length : Int) < (n : Int) - 1 := by omega
      have HC := Lib.hid (HD.out R wr (tabs_below HT.out hbl.out))
      obtain ⟨K, hK⟩ : ∃ K, K = (Lib.decodeGo R).2 := ⟨_, rfl⟩
      have hKR : K ≤ R.size := by rw [hK]; exact dg_le R
      obtain ⟨r, hr⟩ : ∃ r, r = (Lib.decodeGo R).1 := ⟨_, rfl⟩
      rw [← hK, ← hr] at HC
      clear hK hr
      obtain ⟨d, hd⟩ : ∃ d, d = done.length := ⟨_, rfl⟩
      have hnext := Lib.cellsOf_next (done := done) (N := n) (by omega)
      have HDD := Lib.hid hd
      rw [← hd] at hlt hnext ⊢
      clear hd
      go_wp2_with fail
      with_reducible refine (HC.out).mono ?_
      rintro e w2 ⟨rfl, b2⟩
      have hcl2 := (b2.block b (lt_of_block hcl.out)).trans hcl.out
      have c1 := cellsAt hcl2 d _ hnext
      have f1 := cellsFree hcl2 d
      have hs1 := set_cells hcl2 d (.string (R.extract 0 K))
      have HS1 : Hid ((w2.setCell ⟨b, d, none⟩ (.string (R.extract 0 K))).heap[b]? = some (.cells (Lib.cellsOf (done ++ [R.extract 0 K]) n) 9 (0, 0))) := by
        show _ = _
        rw [hs1, HDD.out, Lib.cellsOf_set (by omega)]
      have bl2 := cdgo hbl.out b2
      have BL := Lib.hid (bl2.setCell (p := ⟨b, d, none⟩) hbs (.string (R.extract 0 K)))
      have hd1 : (d : Int) < (n : Int) := by omega
      have hd0 : (0 : Int) ≤ (d : Int) := by omega
      have k0 : (0 : Int) ≤ (K : Int) := by omega
      have k1 : (K : Int) ≤ (R.size : Int) := by omega
      have hw2 : IntKind.i64.wrap ((d : Int) + 1) = (d : Int) + 1 := IntWalk.i64_in _ (by omega)
      have hj2 : Hid (((done ++ [R.extract 0 K]).map (·.data.toList)).flatten ++ (R.extract K R.size).data.toList = s.data.toList) := by
        show _ = _
        rw [← hj.out]
        simp only [List.map_append, List.map_cons, List.map_nil, List.flatten_append, List.flatten_cons, List.flatten_nil, List.append_nil, List.append_assoc]
        congr 1
        rw [ByteArray.data_extract, ByteArray.data_extract, Array.toList_extract, Array.toList_extract, List.extract_eq_take_drop, List.extract_eq_take_drop]
        rw [show (List.drop K R.data.toList).take (R.size - K) = List.drop K R.data.toList from List.take_of_length_le (by simp)]
        simp
      clear hs1 hcl2 hcl hbl bl2 b2 hj HC
      go_wp2_with fail
      go_roundg g
      case measure => omega
      case rel => exact ⟨done ++ [R.extract 0 K], R.extract K R.size, rfl, by have := HDD.out; go_num, by have := HDD.out; simp; omega, by rw [ByteArray.size_extract]; omega, hj2, HS1, BL⟩
end Go.Proofs.YtohaddhjnghcpaaDoor.T1
