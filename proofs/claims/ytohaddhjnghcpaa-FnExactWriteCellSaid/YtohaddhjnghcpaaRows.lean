/-
  No cell of these rows narrows 'for every input' (looked for: loops, veiled, ifaces, maps, wideKeys, modest, calm, conditions, laid).
  DERIVED. THE GIVEN ROWS OF THIS SEAT. 9 by the template 'for every input the law returns true; each argument reads behind the call as it read before'; 0 by the template 'total and deterministic' (their statements: YtohaddhjnghcpaaTotals.lean).
  GIVEN WITH THE SEED: the statements are not yours to turn. If you find one false, say at which input.
  Laid BY PROGRAM, IN A SANDBOX (cutbox-rows.mjs): the forced cells as the released guide's own fill.sh prints them over the translation 6bdab814811aaba6… (all of the seat's roots in one cut). By AI agents, Wed Nov 11 2026. No macro, syntax, notation, axiom, sorry.
-/
import Derived.Test.YtohaddhjnghcpaaChecked
import GoSem.Claim
import GoSem.ClaimJoined
import GoSem.ClaimMapViews
import Derived.JoinedTies
import Derived.KernelRfl
namespace Go.Proofs.Ytohaddhjnghcpaa
/- THE CELL 'sum', in the pinned program and in every row, IS THE sha256 OF THE DUMP (.gsa) THAT YtohaddhjnghcpaaProg.lean LOADS. Nothing in Lean hashes anything: it is a label: what it is worth is what the hold of that sum in a sandbox is worth. -/
noncomputable def Try.pinned : Pinned := { name := "ytohaddhjnghcpaa", sum := "6bdab814811aaba6a1c570d2343ea6827185675940c6b8508b68b5d8b2bb67ea", checked := Try.checked }
namespace Rows
def none {H : Type} : Left H := { results := [], args := [] }

/-- 'laws.FnExactTruthAt': WHATEVER THE INPUT: true; the input reads as it did. -/
def fnExactTruthAtSpec : ChangeSpec := { name := "fnExactTruthAt", fn := fun _ => fun
  | [d1, d2] => { results := [.lit (.bool true)], args := [d1, d2] }
  | _ => none }
def fnExactTruthAtRow : OpenClaim := { program := "ytohaddhjnghcpaa", sum := "6bdab814811aaba6a1c570d2343ea6827185675940c6b8508b68b5d8b2bb67ea", func := "loop.example/g01175/laws.FnExactTruthAt", spec := "fnExactTruthAt", unfollowed := true, recurses := true, apart := false }
def FnExactTruthAtSaid : Prop := fnExactTruthAtRow.holds Try.pinned (OpenSpec.ofChange fnExactTruthAtSpec)

/-- ITS FALSE NEIGHBOUR: 'it returns false'. Refute it at one input. -/
def fnExactTruthAtWrong : ChangeSpec := { name := "fnExactTruthAt", fn := fun _ => fun
  | [d1, d2] => { results := [.lit (.bool false)], args := [d1, d2] }
  | _ => none }
def FnExactTruthAtWrongFalsely : Prop := fnExactTruthAtRow.holds Try.pinned (OpenSpec.ofChange fnExactTruthAtWrong)

/-- 'laws.FnExactTestAt': WHATEVER THE INPUT: true; the input reads as it did. -/
def fnExactTestAtSpec : ChangeSpec := { name := "fnExactTestAt", fn := fun _ => fun
  | [d1, d2, d3] => { results := [.lit (.bool true)], args := [d1, d2, d3] }
  | _ => none }
def fnExactTestAtRow : OpenClaim := { program := "ytohaddhjnghcpaa", sum := "6bdab814811aaba6a1c570d2343ea6827185675940c6b8508b68b5d8b2bb67ea", func := "loop.example/g01175/laws.FnExactTestAt", spec := "fnExactTestAt", unfollowed := true, recurses := true, apart := false }
def FnExactTestAtSaid : Prop := fnExactTestAtRow.holds Try.pinned (OpenSpec.ofChange fnExactTestAtSpec)

/-- ITS FALSE NEIGHBOUR: 'it returns false'. Refute it at one input. -/
def fnExactTestAtWrong : ChangeSpec := { name := "fnExactTestAt", fn := fun _ => fun
  | [d1, d2, d3] => { results := [.lit (.bool false)], args := [d1, d2, d3] }
  | _ => none }
def FnExactTestAtWrongFalsely : Prop := fnExactTestAtRow.holds Try.pinned (OpenSpec.ofChange fnExactTestAtWrong)

/-- 'laws.FnExactNotAt': WHATEVER THE INPUT: true; the input reads as it did. -/
def fnExactNotAtSpec : ChangeSpec := { name := "fnExactNotAt", fn := fun _ => fun
  | [d1, d2] => { results := [.lit (.bool true)], args := [d1, d2] }
  | _ => none }
def fnExactNotAtRow : OpenClaim := { program := "ytohaddhjnghcpaa", sum := "6bdab814811aaba6a1c570d2343ea6827185675940c6b8508b68b5d8b2bb67ea", func := "loop.example/g01175/laws.FnExactNotAt", spec := "fnExactNotAt", unfollowed := true, recurses := true, apart := false }
def FnExactNotAtSaid : Prop := fnExactNotAtRow.holds Try.pinned (OpenSpec.ofChange fnExactNotAtSpec)

/-- ITS FALSE NEIGHBOUR: 'it returns false'. Refute it at one input. -/
def fnExactNotAtWrong : ChangeSpec := { name := "fnExactNotAt", fn := fun _ => fun
  | [d1, d2] => { results := [.lit (.bool false)], args := [d1, d2] }
  | _ => none }
def FnExactNotAtWrongFalsely : Prop := fnExactNotAtRow.holds Try.pinned (OpenSpec.ofChange fnExactNotAtWrong)

/-- 'laws.FnExactAndAt': WHATEVER THE INPUT: true; the input reads as it did. -/
def fnExactAndAtSpec : ChangeSpec := { name := "fnExactAndAt", fn := fun _ => fun
  | [d1, d2, d3] => { results := [.lit (.bool true)], args := [d1, d2, d3] }
  | _ => none }
def fnExactAndAtRow : OpenClaim := { program := "ytohaddhjnghcpaa", sum := "6bdab814811aaba6a1c570d2343ea6827185675940c6b8508b68b5d8b2bb67ea", func := "loop.example/g01175/laws.FnExactAndAt", spec := "fnExactAndAt", unfollowed := true, recurses := true, apart := false }
def FnExactAndAtSaid : Prop := fnExactAndAtRow.holds Try.pinned (OpenSpec.ofChange fnExactAndAtSpec)

/-- ITS FALSE NEIGHBOUR: 'it returns false'. Refute it at one input. -/
def fnExactAndAtWrong : ChangeSpec := { name := "fnExactAndAt", fn := fun _ => fun
  | [d1, d2, d3] => { results := [.lit (.bool false)], args := [d1, d2, d3] }
  | _ => none }
def FnExactAndAtWrongFalsely : Prop := fnExactAndAtRow.holds Try.pinned (OpenSpec.ofChange fnExactAndAtWrong)

/-- 'laws.FnExactForwardAt': WHATEVER THE INPUT: true; the input reads as it did. -/
def fnExactForwardAtSpec : ChangeSpec := { name := "fnExactForwardAt", fn := fun _ => fun
  | [d1, d2] => { results := [.lit (.bool true)], args := [d1, d2] }
  | _ => none }
def fnExactForwardAtRow : OpenClaim := { program := "ytohaddhjnghcpaa", sum := "6bdab814811aaba6a1c570d2343ea6827185675940c6b8508b68b5d8b2bb67ea", func := "loop.example/g01175/laws.FnExactForwardAt", spec := "fnExactForwardAt", unfollowed := true, recurses := true, apart := false }
def FnExactForwardAtSaid : Prop := fnExactForwardAtRow.holds Try.pinned (OpenSpec.ofChange fnExactForwardAtSpec)

/-- ITS FALSE NEIGHBOUR: 'it returns false'. Refute it at one input. -/
def fnExactForwardAtWrong : ChangeSpec := { name := "fnExactForwardAt", fn := fun _ => fun
  | [d1, d2] => { results := [.lit (.bool false)], args := [d1, d2] }
  | _ => none }
def FnExactForwardAtWrongFalsely : Prop := fnExactForwardAtRow.holds Try.pinned (OpenSpec.ofChange fnExactForwardAtWrong)

/-- 'laws.FnExactCellAt': WHATEVER THE INPUT: true; the input reads as it did. -/
def fnExactCellAtSpec : ChangeSpec := { name := "fnExactCellAt", fn := fun _ => fun
  | [d1, d2] => { results := [.lit (.bool true)], args := [d1, d2] }
  | _ => none }
def fnExactCellAtRow : OpenClaim := { program := "ytohaddhjnghcpaa", sum := "6bdab814811aaba6a1c570d2343ea6827185675940c6b8508b68b5d8b2bb67ea", func := "loop.example/g01175/laws.FnExactCellAt", spec := "fnExactCellAt", unfollowed := true, recurses := true, apart := false }
def FnExactCellAtSaid : Prop := fnExactCellAtRow.holds Try.pinned (OpenSpec.ofChange fnExactCellAtSpec)

/-- ITS FALSE NEIGHBOUR: 'it returns false'. Refute it at one input. -/
def fnExactCellAtWrong : ChangeSpec := { name := "fnExactCellAt", fn := fun _ => fun
  | [d1, d2] => { results := [.lit (.bool false)], args := [d1, d2] }
  | _ => none }
def FnExactCellAtWrongFalsely : Prop := fnExactCellAtRow.holds Try.pinned (OpenSpec.ofChange fnExactCellAtWrong)

/-- 'laws.FnExactReadCell': WHATEVER THE INPUT: true; the input reads as it did. -/
def fnExactReadCellSpec : ChangeSpec := { name := "fnExactReadCell", fn := fun _ => fun
  | [d1, d2, d3] => { results := [.lit (.bool true)], args := [d1, d2, d3] }
  | _ => none }
def fnExactReadCellRow : OpenClaim := { program := "ytohaddhjnghcpaa", sum := "6bdab814811aaba6a1c570d2343ea6827185675940c6b8508b68b5d8b2bb67ea", func := "loop.example/g01175/laws.FnExactReadCell", spec := "fnExactReadCell", unfollowed := true, recurses := true, apart := false }
def FnExactReadCellSaid : Prop := fnExactReadCellRow.holds Try.pinned (OpenSpec.ofChange fnExactReadCellSpec)

/-- ITS FALSE NEIGHBOUR: 'it returns false'. Refute it at one input. -/
def fnExactReadCellWrong : ChangeSpec := { name := "fnExactReadCell", fn := fun _ => fun
  | [d1, d2, d3] => { results := [.lit (.bool false)], args := [d1, d2, d3] }
  | _ => none }
def FnExactReadCellWrongFalsely : Prop := fnExactReadCellRow.holds Try.pinned (OpenSpec.ofChange fnExactReadCellWrong)

/-- 'laws.FnExactWriteCell': WHATEVER THE INPUT: true; the input reads as it did. -/
def fnExactWriteCellSpec : ChangeSpec := { name := "fnExactWriteCell", fn := fun _ => fun
  | [d1, d2, d3] => { results := [.lit (.bool true)], args := [d1, d2, d3] }
  | _ => none }
def fnExactWriteCellRow : OpenClaim := { program := "ytohaddhjnghcpaa", sum := "6bdab814811aaba6a1c570d2343ea6827185675940c6b8508b68b5d8b2bb67ea", func := "loop.example/g01175/laws.FnExactWriteCell", spec := "fnExactWriteCell", unfollowed := true, recurses := true, apart := false }
def FnExactWriteCellSaid : Prop := fnExactWriteCellRow.holds Try.pinned (OpenSpec.ofChange fnExactWriteCellSpec)

/-- ITS FALSE NEIGHBOUR: 'it returns false'. Refute it at one input. -/
def fnExactWriteCellWrong : ChangeSpec := { name := "fnExactWriteCell", fn := fun _ => fun
  | [d1, d2, d3] => { results := [.lit (.bool false)], args := [d1, d2, d3] }
  | _ => none }
def FnExactWriteCellWrongFalsely : Prop := fnExactWriteCellRow.holds Try.pinned (OpenSpec.ofChange fnExactWriteCellWrong)

/-- 'laws.FnExactChoiceOf': WHATEVER THE INPUT: true; the input reads as it did. -/
def fnExactChoiceOfSpec : ChangeSpec := { name := "fnExactChoiceOf", fn := fun _ => fun
  | [d1, d2] => { results := [.lit (.bool true)], args := [d1, d2] }
  | _ => none }
def fnExactChoiceOfRow : OpenClaim := { program := "ytohaddhjnghcpaa", sum := "6bdab814811aaba6a1c570d2343ea6827185675940c6b8508b68b5d8b2bb67ea", func := "loop.example/g01175/laws.FnExactChoiceOf", spec := "fnExactChoiceOf", unfollowed := true, recurses := true, apart := false }
def FnExactChoiceOfSaid : Prop := fnExactChoiceOfRow.holds Try.pinned (OpenSpec.ofChange fnExactChoiceOfSpec)

/-- ITS FALSE NEIGHBOUR: 'it returns false'. Refute it at one input. -/
def fnExactChoiceOfWrong : ChangeSpec := { name := "fnExactChoiceOf", fn := fun _ => fun
  | [d1, d2] => { results := [.lit (.bool false)], args := [d1, d2] }
  | _ => none }
def FnExactChoiceOfWrongFalsely : Prop := fnExactChoiceOfRow.holds Try.pinned (OpenSpec.ofChange fnExactChoiceOfWrong)

/- THE SECOND FORM. 'bulk': how many values and letters a reading holds, each counted each time it is reached (what is shared counts as often as it is met; a slice's spare places count too). A statement '..UptoSaid' is the law's where the arguments, and the package variables that the reading takes, are together of bulk at most 1048576: NARROWER than '..Said'. Prove '..Said' where nothing that the law and all that it calls make is longer than what came in: it says more and counts as full. Else prove '..UptoSaid'. A law counts once. -/
mutual
def uptoBulk {H : Type} : DataW H → Nat
  | .lit (.string bytes) => bytes.length + 1
  | .lit _ => 1
  | .nil => 1
  | .ptr d => uptoBulk d + 1
  | .slice elems spare => uptoBulkAll elems + uptoBulkAll spare + 1
  | .agg parts => uptoBulkAll parts + 1
  | .iface _ d => uptoBulk d + 1
  | .map entries => uptoBulkEntries entries + 1
  | .held _ => 1
def uptoBulkAll {H : Type} : List (DataW H) → Nat
  | [] => 0
  | d :: r => uptoBulk d + uptoBulkAll r
def uptoBulkEntries {H : Type} : List (Lit × DataW H) → Nat
  | [] => 0
  | x :: r => uptoBulkEntry x + uptoBulkEntries r
def uptoBulkEntry {H : Type} : Lit × DataW H → Nat
  | (.string bytes, d) => bytes.length + uptoBulk d + 1
  | (_, d) => uptoBulk d + 1
 end
def uptoSmall : (H : Type) → List (DataW H) → Bool := fun _ ds => decide (uptoBulkAll ds ≤ 1048576)
def OpenSpec.upto (s : _root_.Go.ChangeSpec) : _root_.Go.OpenSpec := { _root_.Go.OpenSpec.ofChange s with cond := some uptoSmall }

/-- 'laws.FnExactTruthAt', WHERE WHAT IT READS IS OF BULK AT MOST 1048576: true; the input reads as it did. -/
def fnExactTruthAtUptoRow : OpenClaim := { program := "ytohaddhjnghcpaa", sum := "6bdab814811aaba6a1c570d2343ea6827185675940c6b8508b68b5d8b2bb67ea", func := "loop.example/g01175/laws.FnExactTruthAt", spec := "fnExactTruthAt", unfollowed := true, recurses := true, apart := false, narrowed := true }
def FnExactTruthAtUptoSaid : Prop := fnExactTruthAtUptoRow.holds Try.pinned (OpenSpec.upto fnExactTruthAtSpec)

/-- 'laws.FnExactTestAt', WHERE WHAT IT READS IS OF BULK AT MOST 1048576: true; the input reads as it did. -/
def fnExactTestAtUptoRow : OpenClaim := { program := "ytohaddhjnghcpaa", sum := "6bdab814811aaba6a1c570d2343ea6827185675940c6b8508b68b5d8b2bb67ea", func := "loop.example/g01175/laws.FnExactTestAt", spec := "fnExactTestAt", unfollowed := true, recurses := true, apart := false, narrowed := true }
def FnExactTestAtUptoSaid : Prop := fnExactTestAtUptoRow.holds Try.pinned (OpenSpec.upto fnExactTestAtSpec)

/-- 'laws.FnExactNotAt', WHERE WHAT IT READS IS OF BULK AT MOST 1048576: true; the input reads as it did. -/
def fnExactNotAtUptoRow : OpenClaim := { program := "ytohaddhjnghcpaa", sum := "6bdab814811aaba6a1c570d2343ea6827185675940c6b8508b68b5d8b2bb67ea", func := "loop.example/g01175/laws.FnExactNotAt", spec := "fnExactNotAt", unfollowed := true, recurses := true, apart := false, narrowed := true }
def FnExactNotAtUptoSaid : Prop := fnExactNotAtUptoRow.holds Try.pinned (OpenSpec.upto fnExactNotAtSpec)

/-- 'laws.FnExactAndAt', WHERE WHAT IT READS IS OF BULK AT MOST 1048576: true; the input reads as it did. -/
def fnExactAndAtUptoRow : OpenClaim := { program := "ytohaddhjnghcpaa", sum := "6bdab814811aaba6a1c570d2343ea6827185675940c6b8508b68b5d8b2bb67ea", func := "loop.example/g01175/laws.FnExactAndAt", spec := "fnExactAndAt", unfollowed := true, recurses := true, apart := false, narrowed := true }
def FnExactAndAtUptoSaid : Prop := fnExactAndAtUptoRow.holds Try.pinned (OpenSpec.upto fnExactAndAtSpec)

/-- 'laws.FnExactForwardAt', WHERE WHAT IT READS IS OF BULK AT MOST 1048576: true; the input reads as it did. -/
def fnExactForwardAtUptoRow : OpenClaim := { program := "ytohaddhjnghcpaa", sum := "6bdab814811aaba6a1c570d2343ea6827185675940c6b8508b68b5d8b2bb67ea", func := "loop.example/g01175/laws.FnExactForwardAt", spec := "fnExactForwardAt", unfollowed := true, recurses := true, apart := false, narrowed := true }
def FnExactForwardAtUptoSaid : Prop := fnExactForwardAtUptoRow.holds Try.pinned (OpenSpec.upto fnExactForwardAtSpec)

/-- 'laws.FnExactCellAt', WHERE WHAT IT READS IS OF BULK AT MOST 1048576: true; the input reads as it did. -/
def fnExactCellAtUptoRow : OpenClaim := { program := "ytohaddhjnghcpaa", sum := "6bdab814811aaba6a1c570d2343ea6827185675940c6b8508b68b5d8b2bb67ea", func := "loop.example/g01175/laws.FnExactCellAt", spec := "fnExactCellAt", unfollowed := true, recurses := true, apart := false, narrowed := true }
def FnExactCellAtUptoSaid : Prop := fnExactCellAtUptoRow.holds Try.pinned (OpenSpec.upto fnExactCellAtSpec)

/-- 'laws.FnExactReadCell', WHERE WHAT IT READS IS OF BULK AT MOST 1048576: true; the input reads as it did. -/
def fnExactReadCellUptoRow : OpenClaim := { program := "ytohaddhjnghcpaa", sum := "6bdab814811aaba6a1c570d2343ea6827185675940c6b8508b68b5d8b2bb67ea", func := "loop.example/g01175/laws.FnExactReadCell", spec := "fnExactReadCell", unfollowed := true, recurses := true, apart := false, narrowed := true }
def FnExactReadCellUptoSaid : Prop := fnExactReadCellUptoRow.holds Try.pinned (OpenSpec.upto fnExactReadCellSpec)

/-- 'laws.FnExactWriteCell', WHERE WHAT IT READS IS OF BULK AT MOST 1048576: true; the input reads as it did. -/
def fnExactWriteCellUptoRow : OpenClaim := { program := "ytohaddhjnghcpaa", sum := "6bdab814811aaba6a1c570d2343ea6827185675940c6b8508b68b5d8b2bb67ea", func := "loop.example/g01175/laws.FnExactWriteCell", spec := "fnExactWriteCell", unfollowed := true, recurses := true, apart := false, narrowed := true }
def FnExactWriteCellUptoSaid : Prop := fnExactWriteCellUptoRow.holds Try.pinned (OpenSpec.upto fnExactWriteCellSpec)

/-- 'laws.FnExactChoiceOf', WHERE WHAT IT READS IS OF BULK AT MOST 1048576: true; the input reads as it did. -/
def fnExactChoiceOfUptoRow : OpenClaim := { program := "ytohaddhjnghcpaa", sum := "6bdab814811aaba6a1c570d2343ea6827185675940c6b8508b68b5d8b2bb67ea", func := "loop.example/g01175/laws.FnExactChoiceOf", spec := "fnExactChoiceOf", unfollowed := true, recurses := true, apart := false, narrowed := true }
def FnExactChoiceOfUptoSaid : Prop := fnExactChoiceOfUptoRow.holds Try.pinned (OpenSpec.upto fnExactChoiceOfSpec)

end Rows
end Go.Proofs.Ytohaddhjnghcpaa
