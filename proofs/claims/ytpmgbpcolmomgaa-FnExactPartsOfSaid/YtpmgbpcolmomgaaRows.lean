/-
  No cell of these rows narrows 'for every input' (looked for: loops, veiled, ifaces, maps, wideKeys, modest, calm, conditions, laid).
  DERIVED. THE GIVEN ROWS OF THIS SEAT. 6 by the template 'for every input the law returns true; each argument reads behind the call as it read before'; 0 by the template 'total and deterministic' (their statements: YtpmgbpcolmomgaaTotals.lean).
  GIVEN WITH THE SEED: the statements are not yours to turn. If you find one false, say at which input.
  Laid BY PROGRAM, IN A SANDBOX (cutbox-rows.mjs): the forced cells as the released guide's own fill.sh prints them over the translation 1bf86a01c9e90464… (all of the seat's roots in one cut). By AI agents, Wed Nov 11 2026. No macro, syntax, notation, axiom, sorry.
-/
import Derived.Test.YtpmgbpcolmomgaaChecked
import GoSem.Claim
import GoSem.ClaimJoined
import GoSem.ClaimMapViews
import Derived.JoinedTies
import Derived.KernelRfl
namespace Go.Proofs.Ytpmgbpcolmomgaa
/- THE CELL 'sum', in the pinned program and in every row, IS THE sha256 OF THE DUMP (.gsa) THAT YtpmgbpcolmomgaaProg.lean LOADS. Nothing in Lean hashes anything: it is a label: what it is worth is what the hold of that sum in a sandbox is worth. -/
noncomputable def Try.pinned : Pinned := { name := "ytpmgbpcolmomgaa", sum := "1bf86a01c9e9046407f8e96b638afe0bc0aae1dea889ef1fffaf989731eddef7", checked := Try.checked }
namespace Rows
def none {H : Type} : Left H := { results := [], args := [] }

/-- 'laws.FnExactReplaceAt': WHATEVER THE INPUT: true; the input reads as it did. -/
def fnExactReplaceAtSpec : ChangeSpec := { name := "fnExactReplaceAt", fn := fun _ => fun
  | [d1, d2, d3] => { results := [.lit (.bool true)], args := [d1, d2, d3] }
  | _ => none }
def fnExactReplaceAtRow : OpenClaim := { program := "ytpmgbpcolmomgaa", sum := "1bf86a01c9e9046407f8e96b638afe0bc0aae1dea889ef1fffaf989731eddef7", func := "loop.example/g01175/laws.FnExactReplaceAt", spec := "fnExactReplaceAt", unfollowed := true, recurses := true, apart := false }
def FnExactReplaceAtSaid : Prop := fnExactReplaceAtRow.holds Try.pinned (OpenSpec.ofChange fnExactReplaceAtSpec)

/-- ITS FALSE NEIGHBOUR: 'it returns false'. Refute it at one input. -/
def fnExactReplaceAtWrong : ChangeSpec := { name := "fnExactReplaceAt", fn := fun _ => fun
  | [d1, d2, d3] => { results := [.lit (.bool false)], args := [d1, d2, d3] }
  | _ => none }
def FnExactReplaceAtWrongFalsely : Prop := fnExactReplaceAtRow.holds Try.pinned (OpenSpec.ofChange fnExactReplaceAtWrong)

/-- 'laws.FnExactRenameFree': WHATEVER THE INPUT: true; the input reads as it did. -/
def fnExactRenameFreeSpec : ChangeSpec := { name := "fnExactRenameFree", fn := fun _ => fun
  | [d1, d2, d3] => { results := [.lit (.bool true)], args := [d1, d2, d3] }
  | _ => none }
def fnExactRenameFreeRow : OpenClaim := { program := "ytpmgbpcolmomgaa", sum := "1bf86a01c9e9046407f8e96b638afe0bc0aae1dea889ef1fffaf989731eddef7", func := "loop.example/g01175/laws.FnExactRenameFree", spec := "fnExactRenameFree", unfollowed := true, recurses := true, apart := false }
def FnExactRenameFreeSaid : Prop := fnExactRenameFreeRow.holds Try.pinned (OpenSpec.ofChange fnExactRenameFreeSpec)

/-- ITS FALSE NEIGHBOUR: 'it returns false'. Refute it at one input. -/
def fnExactRenameFreeWrong : ChangeSpec := { name := "fnExactRenameFree", fn := fun _ => fun
  | [d1, d2, d3] => { results := [.lit (.bool false)], args := [d1, d2, d3] }
  | _ => none }
def FnExactRenameFreeWrongFalsely : Prop := fnExactRenameFreeRow.holds Try.pinned (OpenSpec.ofChange fnExactRenameFreeWrong)

/-- 'laws.FnExactCanonicalNames': WHATEVER THE INPUT: true; the input reads as it did. -/
def fnExactCanonicalNamesSpec : ChangeSpec := { name := "fnExactCanonicalNames", fn := fun _ => fun
  | [d] => { results := [.lit (.bool true)], args := [d] }
  | _ => none }
def fnExactCanonicalNamesRow : OpenClaim := { program := "ytpmgbpcolmomgaa", sum := "1bf86a01c9e9046407f8e96b638afe0bc0aae1dea889ef1fffaf989731eddef7", func := "loop.example/g01175/laws.FnExactCanonicalNames", spec := "fnExactCanonicalNames", unfollowed := true, recurses := true, apart := false }
def FnExactCanonicalNamesSaid : Prop := fnExactCanonicalNamesRow.holds Try.pinned (OpenSpec.ofChange fnExactCanonicalNamesSpec)

/-- ITS FALSE NEIGHBOUR: 'it returns false'. Refute it at one input. -/
def fnExactCanonicalNamesWrong : ChangeSpec := { name := "fnExactCanonicalNames", fn := fun _ => fun
  | [d] => { results := [.lit (.bool false)], args := [d] }
  | _ => none }
def FnExactCanonicalNamesWrongFalsely : Prop := fnExactCanonicalNamesRow.holds Try.pinned (OpenSpec.ofChange fnExactCanonicalNamesWrong)

/-- 'laws.FnExactAreAlpha': WHATEVER THE INPUT: true; the input reads as it did. -/
def fnExactAreAlphaSpec : ChangeSpec := { name := "fnExactAreAlpha", fn := fun _ => fun
  | [d1, d2] => { results := [.lit (.bool true)], args := [d1, d2] }
  | _ => none }
def fnExactAreAlphaRow : OpenClaim := { program := "ytpmgbpcolmomgaa", sum := "1bf86a01c9e9046407f8e96b638afe0bc0aae1dea889ef1fffaf989731eddef7", func := "loop.example/g01175/laws.FnExactAreAlpha", spec := "fnExactAreAlpha", unfollowed := true, recurses := true, apart := false }
def FnExactAreAlphaSaid : Prop := fnExactAreAlphaRow.holds Try.pinned (OpenSpec.ofChange fnExactAreAlphaSpec)

/-- ITS FALSE NEIGHBOUR: 'it returns false'. Refute it at one input. -/
def fnExactAreAlphaWrong : ChangeSpec := { name := "fnExactAreAlpha", fn := fun _ => fun
  | [d1, d2] => { results := [.lit (.bool false)], args := [d1, d2] }
  | _ => none }
def FnExactAreAlphaWrongFalsely : Prop := fnExactAreAlphaRow.holds Try.pinned (OpenSpec.ofChange fnExactAreAlphaWrong)

/-- 'laws.FnExactIsWellNamed': WHATEVER THE INPUT: true; the input reads as it did. -/
def fnExactIsWellNamedSpec : ChangeSpec := { name := "fnExactIsWellNamed", fn := fun _ => fun
  | [d] => { results := [.lit (.bool true)], args := [d] }
  | _ => none }
def fnExactIsWellNamedRow : OpenClaim := { program := "ytpmgbpcolmomgaa", sum := "1bf86a01c9e9046407f8e96b638afe0bc0aae1dea889ef1fffaf989731eddef7", func := "loop.example/g01175/laws.FnExactIsWellNamed", spec := "fnExactIsWellNamed", unfollowed := true, recurses := true, apart := false }
def FnExactIsWellNamedSaid : Prop := fnExactIsWellNamedRow.holds Try.pinned (OpenSpec.ofChange fnExactIsWellNamedSpec)

/-- ITS FALSE NEIGHBOUR: 'it returns false'. Refute it at one input. -/
def fnExactIsWellNamedWrong : ChangeSpec := { name := "fnExactIsWellNamed", fn := fun _ => fun
  | [d] => { results := [.lit (.bool false)], args := [d] }
  | _ => none }
def FnExactIsWellNamedWrongFalsely : Prop := fnExactIsWellNamedRow.holds Try.pinned (OpenSpec.ofChange fnExactIsWellNamedWrong)

/-- 'laws.FnExactPartsOf': WHATEVER THE INPUT: true; the input reads as it did. -/
def fnExactPartsOfSpec : ChangeSpec := { name := "fnExactPartsOf", fn := fun _ => fun
  | [d] => { results := [.lit (.bool true)], args := [d] }
  | _ => none }
def fnExactPartsOfRow : OpenClaim := { program := "ytpmgbpcolmomgaa", sum := "1bf86a01c9e9046407f8e96b638afe0bc0aae1dea889ef1fffaf989731eddef7", func := "loop.example/g01175/laws.FnExactPartsOf", spec := "fnExactPartsOf", unfollowed := true, recurses := true, apart := false }
def FnExactPartsOfSaid : Prop := fnExactPartsOfRow.holds Try.pinned (OpenSpec.ofChange fnExactPartsOfSpec)

/-- ITS FALSE NEIGHBOUR: 'it returns false'. Refute it at one input. -/
def fnExactPartsOfWrong : ChangeSpec := { name := "fnExactPartsOf", fn := fun _ => fun
  | [d] => { results := [.lit (.bool false)], args := [d] }
  | _ => none }
def FnExactPartsOfWrongFalsely : Prop := fnExactPartsOfRow.holds Try.pinned (OpenSpec.ofChange fnExactPartsOfWrong)

/- THE SECOND FORM. 'bulk': how many values and letters a reading holds, each counted each time it is reached (what is shared counts as often as it is met; a slice's spare places count too). A statement '..UptoSaid' is the law's where the arguments, and the package variables that the reading takes, are together of bulk at most 1048576: NARROWER than '..Said'. Prove '..Said' where nothing that the law and all that it calls make is longer than what came in: it says more and counts as full. Else prove '..UptoSaid'. A law counts once. -/
mutual
def uptoBulk {H : Type} : DataW H → Nat
  | .lit (.string bytes) => bytes.length + 1
  | .lit _ => 1
  | .nil => 1
  | .ptr d => uptoBulk d + 1
  | .slice elems spare => uptoBulkAll elems + uptoBulkAll spare + 1
  | .agg parts => uptoBulkAll parts + 1
  | .iface _ d => uptoBulk d + 1
  | .map entries => uptoBulkEntries entries + 1
  | .held _ => 1
def uptoBulkAll {H : Type} : List (DataW H) → Nat
  | [] => 0
  | d :: r => uptoBulk d + uptoBulkAll r
def uptoBulkEntries {H : Type} : List (Lit × DataW H) → Nat
  | [] => 0
  | x :: r => uptoBulkEntry x + uptoBulkEntries r
def uptoBulkEntry {H : Type} : Lit × DataW H → Nat
  | (.string bytes, d) => bytes.length + uptoBulk d + 1
  | (_, d) => uptoBulk d + 1
 end
def uptoSmall : (H : Type) → List (DataW H) → Bool := fun _ ds => decide (uptoBulkAll ds ≤ 1048576)
def OpenSpec.upto (s : _root_.Go.ChangeSpec) : _root_.Go.OpenSpec := { _root_.Go.OpenSpec.ofChange s with cond := some uptoSmall }

/-- 'laws.FnExactReplaceAt', WHERE WHAT IT READS IS OF BULK AT MOST 1048576: true; the input reads as it did. -/
def fnExactReplaceAtUptoRow : OpenClaim := { program := "ytpmgbpcolmomgaa", sum := "1bf86a01c9e9046407f8e96b638afe0bc0aae1dea889ef1fffaf989731eddef7", func := "loop.example/g01175/laws.FnExactReplaceAt", spec := "fnExactReplaceAt", unfollowed := true, recurses := true, apart := false, narrowed := true }
def FnExactReplaceAtUptoSaid : Prop := fnExactReplaceAtUptoRow.holds Try.pinned (OpenSpec.upto fnExactReplaceAtSpec)

/-- 'laws.FnExactRenameFree', WHERE WHAT IT READS IS OF BULK AT MOST 1048576: true; the input reads as it did. -/
def fnExactRenameFreeUptoRow : OpenClaim := { program := "ytpmgbpcolmomgaa", sum := "1bf86a01c9e9046407f8e96b638afe0bc0aae1dea889ef1fffaf989731eddef7", func := "loop.example/g01175/laws.FnExactRenameFree", spec := "fnExactRenameFree", unfollowed := true, recurses := true, apart := false, narrowed := true }
def FnExactRenameFreeUptoSaid : Prop := fnExactRenameFreeUptoRow.holds Try.pinned (OpenSpec.upto fnExactRenameFreeSpec)

/-- 'laws.FnExactCanonicalNames', WHERE WHAT IT READS IS OF BULK AT MOST 1048576: true; the input reads as it did. -/
def fnExactCanonicalNamesUptoRow : OpenClaim := { program := "ytpmgbpcolmomgaa", sum := "1bf86a01c9e9046407f8e96b638afe0bc0aae1dea889ef1fffaf989731eddef7", func := "loop.example/g01175/laws.FnExactCanonicalNames", spec := "fnExactCanonicalNames", unfollowed := true, recurses := true, apart := false, narrowed := true }
def FnExactCanonicalNamesUptoSaid : Prop := fnExactCanonicalNamesUptoRow.holds Try.pinned (OpenSpec.upto fnExactCanonicalNamesSpec)

/-- 'laws.FnExactAreAlpha', WHERE WHAT IT READS IS OF BULK AT MOST 1048576: true; the input reads as it did. -/
def fnExactAreAlphaUptoRow : OpenClaim := { program := "ytpmgbpcolmomgaa", sum := "1bf86a01c9e9046407f8e96b638afe0bc0aae1dea889ef1fffaf989731eddef7", func := "loop.example/g01175/laws.FnExactAreAlpha", spec := "fnExactAreAlpha", unfollowed := true, recurses := true, apart := false, narrowed := true }
def FnExactAreAlphaUptoSaid : Prop := fnExactAreAlphaUptoRow.holds Try.pinned (OpenSpec.upto fnExactAreAlphaSpec)

/-- 'laws.FnExactIsWellNamed', WHERE WHAT IT READS IS OF BULK AT MOST 1048576: true; the input reads as it did. -/
def fnExactIsWellNamedUptoRow : OpenClaim := { program := "ytpmgbpcolmomgaa", sum := "1bf86a01c9e9046407f8e96b638afe0bc0aae1dea889ef1fffaf989731eddef7", func := "loop.example/g01175/laws.FnExactIsWellNamed", spec := "fnExactIsWellNamed", unfollowed := true, recurses := true, apart := false, narrowed := true }
def FnExactIsWellNamedUptoSaid : Prop := fnExactIsWellNamedUptoRow.holds Try.pinned (OpenSpec.upto fnExactIsWellNamedSpec)

/-- 'laws.FnExactPartsOf', WHERE WHAT IT READS IS OF BULK AT MOST 1048576: true; the input reads as it did. -/
def fnExactPartsOfUptoRow : OpenClaim := { program := "ytpmgbpcolmomgaa", sum := "1bf86a01c9e9046407f8e96b638afe0bc0aae1dea889ef1fffaf989731eddef7", func := "loop.example/g01175/laws.FnExactPartsOf", spec := "fnExactPartsOf", unfollowed := true, recurses := true, apart := false, narrowed := true }
def FnExactPartsOfUptoSaid : Prop := fnExactPartsOfUptoRow.holds Try.pinned (OpenSpec.upto fnExactPartsOfSpec)

end Rows
end Go.Proofs.Ytpmgbpcolmomgaa
