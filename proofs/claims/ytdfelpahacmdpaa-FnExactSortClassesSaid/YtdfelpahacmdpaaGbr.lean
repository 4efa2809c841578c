/- Texts of the proof, put together: Vq. No conditions. -/
import Derived.Test.YtdfelpahacmdpaaGbq

/- Sorts in the specification: which sort a name has. -/
namespace Go.Proofs.Ytdfelpahacmdpaa.T1
open Go.RowKit
set_option maxRecDepth 100000
set_option linter.unusedVariables false
set_option linter.unusedSimpArgs false

def fnd : List UInt8 → List Nat → UInt8 → Nat
  | c :: cs, k :: ks, x => if c = x then k else fnd cs ks x
  | _, _, _ => 0
def rI (xs : List Nat) : List Value := xs.map fun (k : Nat) => Value.int .i64 (k : Int)
theorem fnd_with (ns : List UInt8) (xs : List Nat) (x : UInt8) (k : Nat) : fnd (x :: ns) (k :: xs) = upd6 (fnd ns xs) x k := by
  funext y
  show (if x = y then k else fnd ns xs y) = if y = x then k else fnd ns xs y
  by_cases e : x = y
  · rw [if_pos e, if_pos e.symm]
  · rw [if_neg e, if_neg (fun h => e h.symm)]
/-- A scope: names as a text, and their sorts in a row. -/
structure ScAt (w : World) (s : ByteArray) (v : Value) (ns : List UInt8) (xs : List Nat) : Prop where
  text : s.data.toList = ns
  len : xs.length = ns.length
  row : w.ownsRow 0 3 1 v xs.length (rI xs)
  none : xs = [] → v = .slice none 0 0
theorem ScAt.keep {w w' : World} {s : ByteArray} {v : Value} {ns : List UInt8} {xs : List Nat} (h : ScAt w s v ns xs) (hk : ∀ g, v.ownBlock = some g → w'.heap[g]? = w.heap[g]?) : ScAt w' s v ns xs :=
  ⟨h.text, h.len, own_keep h.row hk, h.none⟩
theorem ScAt.below {w w' : World} {s : ByteArray} {v : Value} {ns : List UInt8} {xs : List Nat} (h : ScAt w s v ns xs) (k : Below w.heap.size w w') : ScAt w' s v ns xs :=
  ⟨h.text, h.len, own_below2 h.row k, h.none⟩
theorem rI_at (xs : List Nat) {j : Nat} (hj : j < xs.length) : (rI xs)[j]? = some (.int .i64 (xs[j] : Int)) := by simp [rI, hj]
set_option maxHeartbeats 1000000 in
theorem find_any {w : World} {s : ByteArray} {v : Value} {ns : List UInt8} {xs : List Nat} (h : ScAt w s v ns xs) (hl : ns.length ≤ 1000) (x : UInt8) :
    Calls Try.prog 74 #[.agg #[.string s, v], .int .u8 (x.toNat : Int)] w fun e w' => e = .returned (.int .i64 (fnd ns xs x : Int)) ∧ Below w.heap.size w w' := by
  have hsz : s.size = ns.length := by rw [← h.text]; simp
  have hlen := h.len
  have HX := Lib.hid h
  have bW : Below w.heap.size w (w.alloc (.cells #[.string s, v] 68)) := (Below.refl _ _).alloc (Nat.le_refl _) _
  have HW := Lib.hid (h.below bW)
  have hbk := new_block0 w (.cells #[.string s, v] 68)
  obtain ⟨W, hW⟩ : ∃ W, W = w.alloc (.cells #[.string s, v] 68) := ⟨_, rfl⟩
  rw [← hW] at bW HW hbk
  have cs := cellOf2a hbk
  have cv := cellOf2b hbk
  have HB := Lib.hid bW
  clear h bW hbk
  go_enter Try.func74, Try.ntmps74
  go_wp2_with fail
  rw [← hW]
  clear hW
  go_loopg [5] ns.length (fun gk s5 wr => (∃ i : Nat, s5 = .int .i64 (i : Int) ∧ i + gk = ns.length ∧ Hid (fnd ns xs x = fnd (ns.drop i) (xs.drop i) x)) ∧ wr = W)
  case atStart => exact ⟨⟨0, rfl, by omega, rfl⟩, rfl⟩
  case round =>
    obtain ⟨⟨i, rfl, hg, hf⟩, rfl⟩ := hrel
    by_cases hi : i < ns.length
    · have hi2 : i < xs.length := by omega
      have hsi : i < s.size := by omega
      have hby : s[i] = ns[i] := byte_of HX.out.text i hsi hi
      have hdn : ns.drop i = ns[i] :: ns.drop (i + 1) := List.drop_eq_getElem_cons hi
      have hdx : xs.drop i = xs[i] :: xs.drop (i + 1) := List.drop_eq_getElem_cons hi2
      have HDN := Lib.hid (And.intro hby (And.intro hdn hdx))
      obtain ⟨g, k, rfl⟩ := own_form6 HW.out.row (by omega)
      have cx := (HW.out.row.cellAt i (by omega)).trans (rI_at xs hi2)
      obtain ⟨xi, hxi⟩ : ∃ y, y = xs[i] := ⟨_, rfl⟩
      rw [← hxi] at cx
      have HXI := Lib.hid hxi
      clear hby hdn hdx hxi
      by_cases e : s[i] = x
      · have q : (((s[i]'hsi).toNat : Int) == (x.toNat : Int)) = true := by rw [e]; simp
        have HE := Lib.hid e
        clear e
        go_wp2_with fail
        go_ret
        refine ⟨?_, HB.out⟩
        rw [hf.out, HDN.out.2.1, HDN.out.2.2]
        show _ = Ending.returned (.int .i64 ((if ns[i] = x then xs[i] else fnd (ns.drop (i + 1)) (xs.drop (i + 1)) x : Nat) : Int))
        rw [if_pos (by rw [← HDN.out.1]; exact HE.out), ← HXI.out]
        rfl
      · have q : (((s[i]'hsi).toNat : Int) == (x.toNat : Int)) = false := by
          rw [beq_eq_false_iff_ne]; intro h; exact e (u8_ext (by omega))
        have HE := Lib.hid e
        clear e
        go_wp2_with fail
        go_roundg (gk - 1)
        case measure => omega
        case rel =>
          refine ⟨⟨i + 1, by go_num, by omega, ?_⟩, rfl⟩
          show fnd ns xs x = _
          rw [hf.out, HDN.out.2.1, HDN.out.2.2]
          show (if ns[i] = x then xs[i] else fnd (ns.drop (i + 1)) (xs.drop (i + 1)) x) = _
          rw [if_neg (by rw [← HDN.out.1]; exact HE.out)]
    · have hsi : s.size ≤ i := by omega
      go_wp2_with fail
      go_ret
      refine ⟨?_, HB.out⟩
      rw [hf.out, List.drop_of_length_le (by omega)]
      rfl

end Go.Proofs.Ytdfelpahacmdpaa.T1
