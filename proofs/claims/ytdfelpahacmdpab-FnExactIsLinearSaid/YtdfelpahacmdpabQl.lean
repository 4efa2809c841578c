/- A name's place among the free ones, in the specification. -/
import Derived.Test.YtdfelpahacmdpabQp
import Derived.Test.YtdfelpahacmdpabGood
import Derived.Test.YtdfelpahacmdpabTg
import Derived.Deep.LoopGhost
namespace Go.Proofs.Ytdfelpahacmdpab.T1
open Go.RowKit
set_option maxRecDepth 100000
set_option linter.unusedVariables false
set_option linter.unusedSimpArgs false

theorem srt_lenL {F : List UInt8} (hs : Srt F) (hl : Lets F) : F.length ≤ 26 := by
  have h := hs
  have key : ∀ (G : List UInt8) (b : Nat), Srt G → (∀ x ∈ G, b ≤ x.toNat ∧ x.toNat ≤ 122) → G.length + b ≤ 123 ∨ G = [] := by
    intro G
    induction G with
    | nil => intro b _ _; exact .inr rfl
    | cons c cs ih =>
      intro b hG hx
      left
      obtain ⟨h1, h2⟩ := List.pairwise_cons.1 hG
      have hc := hx c (by simp)
      rcases ih (c.toNat + 1) h2 (fun x hx2 => ⟨by have := (u8_lt _ _).1 (h1 x hx2); omega, (hx x (by simp [hx2])).2⟩) with h | h
      · simp; omega
      · subst h; simp; omega
  rcases key F 97 hs (fun x hx => hl x hx) with h | h
  · omega
  · subst h; simp
def plI (t : Tm) (o : Option UInt8) : Int := match o with
  | some c => (idx6 t.free 0 c : Int)
  | none => 0
theorem nd6 (t : Tm) : t.free.Nodup := srt_nodup (srt_free t)
theorem ext_one (F : List UInt8) (i : Nat) (h : i < F.length) : (B F).extract i (i + 1) = B [F[i]] := by
  apply ByteArray.ext
  apply Array.ext'
  rw [ByteArray.data_extract, Array.toList_extract]
  show List.extract F i (i + 1) = [F[i]]
  rw [List.extract_eq_take_drop, Nat.add_sub_cancel_left, List.drop_eq_getElem_cons h]
  rfl
theorem B_one_eq (a c : UInt8) : ((B [a]).toList == (B [c]).toList) = (a == c) := by
  rw [ByteArray.toList_eq, ByteArray.toList_eq]
  show ([a] == [c]) = _
  simp
set_option maxHeartbeats 1000000 in
theorem soPlace_bad (s k : ByteArray) (HG : ∀ w, Calls Try.prog 19 #[.string s] w fun e w' => e = .returned (.bool false) ∧ Below w.heap.size w w') (w : World) : Calls Try.prog 15 #[.string s, .string k] w fun e w' => e = .returned (.tuple #[.int .i64 0, .bool false]) ∧ Below w.heap.size w w' := by
  have H := Lib.hid HG
  clear HG
  go_enter Try.func15, Try.ntmps15
  go_wp2_with fail
  refine (H.out _).mono ?_
  rintro e w1 ⟨rfl, b1⟩
  go_wp2_with fail
  go_ret2
  exact ⟨rfl, b1⟩
set_option maxHeartbeats 1000000 in
theorem soPlace_not (s k : ByteArray) (HG : ∀ w, Calls Try.prog 19 #[.string s] w fun e w' => e = .returned (.bool true) ∧ Below w.heap.size w w') (HO : ∀ w, Calls Try.prog 23 #[.string k] w fun e w' => e = .returned (.bool false) ∧ Below w.heap.size w w') (w : World) : Calls Try.prog 15 #[.string s, .string k] w fun e w' => e = .returned (.tuple #[.int .i64 0, .bool false]) ∧ Below w.heap.size w w' := by
  have H := Lib.hid HG
  have H2 := Lib.hid HO
  clear HG HO
  go_enter Try.func15, Try.ntmps15
  go_wp2_with fail
  refine (H.out _).mono ?_
  rintro e w1 ⟨rfl, b1⟩
  go_wp2_with fail
  refine (H2.out _).mono ?_
  rintro e w2 ⟨rfl, b2⟩
  go_wp2_with fail
  go_ret2
  exact ⟨rfl, below_trans b1 b2 b1.size⟩
set_option maxHeartbeats 1000000 in
theorem soPlace_one (s : ByteArray) (F : List UInt8) (hm : F.length ≤ 26) (hn : F.Nodup) (c : UInt8) (HG : ∀ w, Calls Try.prog 19 #[.string s] w fun e w' => e = .returned (.bool true) ∧ Below w.heap.size w w') (HO : ∀ w, Calls Try.prog 23 #[.string (B [c])] w fun e w' => e = .returned (.bool true) ∧ Below w.heap.size w w') (HF : ∀ w, Calls Try.prog 24 #[.string s] w fun e w' => e = .returned (.string (B F)) ∧ Below w.heap.size w w') (w : World) :
    Calls Try.prog 15 #[.string s, .string (B [c])] w fun e w' => e = .returned (.tuple #[.int .i64 (if c ∈ F then (idx6 F 0 c : Int) else 0), .bool (decide (c ∈ F))]) ∧ Below w.heap.size w w' := by
  have H := Lib.hid HG
  have H2 := Lib.hid HO
  have H3 := Lib.hid HF
  have HX := Lib.hid (fun i (h : i < F.length) => ext_one F i h)
  have HN := Lib.hid hn
  have hs1 : (B F).size ≤ F.length := by rw [B_size]; exact Nat.le_refl _
  have hs2 : F.length ≤ (B F).size := by rw [B_size]; exact Nat.le_refl _
  obtain ⟨XF, hXF⟩ : ∃ X, X = B F := ⟨_, rfl⟩
  obtain ⟨K, hK⟩ : ∃ K, K = B [c] := ⟨_, rfl⟩
  rw [← hXF] at H3 HX hs1 hs2
  rw [← hK] at H2 ⊢
  have HK := Lib.hid hK
  obtain ⟨V1, hV1⟩ : ∃ V1, V1 = (if c ∈ F then (idx6 F 0 c : Int) else 0) := ⟨_, rfl⟩
  obtain ⟨V2, hV2⟩ : ∃ V2, V2 = decide (c ∈ F) := ⟨_, rfl⟩
  rw [← hV1, ← hV2]
  have HV1 := Lib.hid hV1
  have HV2 := Lib.hid hV2
  clear HG HO HF hn hXF hK hV1 hV2
  go_enter Try.func15, Try.ntmps15
  go_wp2_with fail
  refine (H.out _).mono ?_
  rintro e w1 ⟨rfl, b1⟩
  go_wp2_with fail
  refine (H2.out _).mono ?_
  rintro e w2 ⟨rfl, b2⟩
  go_wp2_with fail
  refine (H3.out _).mono ?_
  rintro e w3 ⟨rfl, b3⟩
  have B3 := Lib.hid (below_trans (below_trans b1 b2 b1.size) b3 (Nat.le_trans b1.size b2.size))
  clear b1 b2 b3
  go_wp2_with fail
  go_loopg [7] F.length (fun gk s7 wr => (∃ i : Nat, s7 = .int .i64 (i : Int) ∧ i + gk = F.length ∧ Hid (∀ j (h : j < F.length), j < i → F[j] ≠ c)) ∧ wr = w3)
  case atStart => exact ⟨⟨0, rfl, by omega, fun j h hj => by omega⟩, rfl⟩
  case round =>
    obtain ⟨⟨i, rfl, hg, hw⟩, rfl⟩ := hrel
    by_cases hi : i < F.length
    · have q1 : (i : Int) < (XF.size : Int) := by omega
      have q2 : (i : Int) + 1 ≤ (XF.size : Int) := by omega
      have q3 : (i : Int) ≤ (i : Int) + 1 := by omega
      by_cases e : F[i] = c
      · have q : ((XF.extract i (i + 1)).toList == K.toList) = true := by rw [HX.out i hi, HK.out, B_one_eq, e]; simp
        have HE := Lib.hid e
        clear e
        go_wp2_with fail
        go_ret2
        refine ⟨?_, B3.out⟩
        have hmem : c ∈ F := by rw [← HE.out]; exact List.getElem_mem hi
        have hid : idx6 F 0 c = i := by rw [← HE.out, idx6_at F 0 i hi HN.out]; omega
        rw [HV1.out, HV2.out, if_pos hmem, decide_eq_true hmem, hid]
        rfl
      · have q : ((XF.extract i (i + 1)).toList == K.toList) = false := by rw [HX.out i hi, HK.out, B_one_eq]; simp [e]
        have HE := Lib.hid e
        clear e
        go_wp2_with fail
        go_roundg (gk - 1)
        case measure => omega
        case rel => exact ⟨⟨i + 1, by go_num, by omega, fun j h hj => by
          by_cases e2 : j = i
          · subst e2; exact HE.out
          · exact hw.out j h (by omega)⟩, rfl⟩
    · have q1 : (XF.size : Int) ≤ (i : Int) := by omega
      go_wp2_with fail
      go_ret2
      refine ⟨?_, B3.out⟩
      have hmem : c ∉ F := fun hm => by
        obtain ⟨j, hj, e⟩ := List.getElem_of_mem hm
        exact hw.out j hj (by omega) e
      rw [HV1.out, HV2.out, if_neg hmem, decide_eq_false hmem]
      rfl
theorem soPlace_good (s : ByteArray) (t : Tm) (hg : good s.data.toList = some t) (hm : s.size ≤ 9223372036854775807) (k : ByteArray) (w : World) : Calls Try.prog 15 #[.string s, .string k] w fun e w' => e = .returned (.tuple #[.int .i64 (plI t (nameOf t.free k)), .bool (nameOf t.free k).isSome]) ∧ Below w.heap.size w w' := by
  obtain ⟨es, hL, hE, h300, h60⟩ := good_S hg
  rcases one_or2 k with ⟨c, hc, ek, o1, _⟩ | ⟨hn, o1, _⟩
  · subst ek
    have H := soPlace_one s t.free (srt_lenL (srt_free t) (lets_free t hL)) (nd6 t) c (tmGood_some hg · hm) o1 (fun w => by have := tmFree_any t hE (by omega) w; rw [← es] at this; exact this) w
    by_cases hmem : c ∈ t.free
    · rw [if_pos hmem, decide_eq_true hmem] at H
      rw [nameOf_yes hc hmem]; exact H
    · rw [if_neg hmem, decide_eq_false hmem] at H
      rw [nameOf_out hmem]; exact H
  · rw [nameOf_no hn]
    exact soPlace_not s k (tmGood_some hg · hm) o1 w

end Go.Proofs.Ytdfelpahacmdpab.T1
