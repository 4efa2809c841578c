/-
  No cell of these rows narrows 'for every input' (looked for: loops, veiled, ifaces, maps, wideKeys, modest, calm, conditions, laid).
  DERIVED. THE GIVEN ROWS OF THIS SEAT. 3 by the template 'for every input the law returns true; each argument reads behind the call as it read before'; 0 by the template 'total and deterministic' (their statements: YtabllmoeehjknaaTotals.lean).
  GIVEN WITH THE SEED: the statements are not yours to turn. If you find one false, say at which input.
  Laid BY PROGRAM, IN A SANDBOX (cutbox-rows.mjs): the forced cells as the released guide's own fill.sh prints them over the translation 5194672db12c6413… (all of the seat's roots in one cut). By AI agents, Wed Nov 11 2026. No macro, syntax, notation, axiom, sorry.
-/
import Derived.Test.YtabllmoeehjknaaChecked
import GoSem.Claim
import GoSem.ClaimJoined
import GoSem.ClaimMapViews
import Derived.JoinedTies
import Derived.KernelRfl
namespace Go.Proofs.Ytabllmoeehjknaa
/- THE CELL 'sum', in the pinned program and in every row, IS THE sha256 OF THE DUMP (.gsa) THAT YtabllmoeehjknaaProg.lean LOADS. Nothing in Lean hashes anything: it is a label: what it is worth is what the hold of that sum in a sandbox is worth. -/
noncomputable def Try.pinned : Pinned := { name := "ytabllmoeehjknaa", sum := "5194672db12c64131a22fd0b550efd8e541eea93d8d62430ecee3409f68f45e6", checked := Try.checked }
namespace Rows
def none {H : Type} : Left H := { results := [], args := [] }

/-- 'laws.FnExactIsLabel': WHATEVER THE INPUT: true; the input reads as it did. -/
def fnExactIsLabelSpec : ChangeSpec := { name := "fnExactIsLabel", fn := fun _ => fun
  | [d] => { results := [.lit (.bool true)], args := [d] }
  | _ => none }
def fnExactIsLabelRow : OpenClaim := { program := "ytabllmoeehjknaa", sum := "5194672db12c64131a22fd0b550efd8e541eea93d8d62430ecee3409f68f45e6", func := "loop.example/g01175/laws.FnExactIsLabel", spec := "fnExactIsLabel", apart := false }
def FnExactIsLabelSaid : Prop := fnExactIsLabelRow.holds Try.pinned (OpenSpec.ofChange fnExactIsLabelSpec)

/-- ITS FALSE NEIGHBOUR: 'it returns false'. Refute it at one input. -/
def fnExactIsLabelWrong : ChangeSpec := { name := "fnExactIsLabel", fn := fun _ => fun
  | [d] => { results := [.lit (.bool false)], args := [d] }
  | _ => none }
def FnExactIsLabelWrongFalsely : Prop := fnExactIsLabelRow.holds Try.pinned (OpenSpec.ofChange fnExactIsLabelWrong)

/-- 'laws.FnExactSubjectOf': WHATEVER THE INPUT: true; the input reads as it did. -/
def fnExactSubjectOfSpec : ChangeSpec := { name := "fnExactSubjectOf", fn := fun _ => fun
  | [d] => { results := [.lit (.bool true)], args := [d] }
  | _ => none }
def fnExactSubjectOfRow : OpenClaim := { program := "ytabllmoeehjknaa", sum := "5194672db12c64131a22fd0b550efd8e541eea93d8d62430ecee3409f68f45e6", func := "loop.example/g01175/laws.FnExactSubjectOf", spec := "fnExactSubjectOf", apart := false }
def FnExactSubjectOfSaid : Prop := fnExactSubjectOfRow.holds Try.pinned (OpenSpec.ofChange fnExactSubjectOfSpec)

/-- ITS FALSE NEIGHBOUR: 'it returns false'. Refute it at one input. -/
def fnExactSubjectOfWrong : ChangeSpec := { name := "fnExactSubjectOf", fn := fun _ => fun
  | [d] => { results := [.lit (.bool false)], args := [d] }
  | _ => none }
def FnExactSubjectOfWrongFalsely : Prop := fnExactSubjectOfRow.holds Try.pinned (OpenSpec.ofChange fnExactSubjectOfWrong)

/-- 'laws.FnExactObjectOf': WHATEVER THE INPUT: true; the input reads as it did. -/
def fnExactObjectOfSpec : ChangeSpec := { name := "fnExactObjectOf", fn := fun _ => fun
  | [d] => { results := [.lit (.bool true)], args := [d] }
  | _ => none }
def fnExactObjectOfRow : OpenClaim := { program := "ytabllmoeehjknaa", sum := "5194672db12c64131a22fd0b550efd8e541eea93d8d62430ecee3409f68f45e6", func := "loop.example/g01175/laws.FnExactObjectOf", spec := "fnExactObjectOf", apart := false }
def FnExactObjectOfSaid : Prop := fnExactObjectOfRow.holds Try.pinned (OpenSpec.ofChange fnExactObjectOfSpec)

/-- ITS FALSE NEIGHBOUR: 'it returns false'. Refute it at one input. -/
def fnExactObjectOfWrong : ChangeSpec := { name := "fnExactObjectOf", fn := fun _ => fun
  | [d] => { results := [.lit (.bool false)], args := [d] }
  | _ => none }
def FnExactObjectOfWrongFalsely : Prop := fnExactObjectOfRow.holds Try.pinned (OpenSpec.ofChange fnExactObjectOfWrong)

/- THE SECOND FORM. 'bulk': how many values and letters a reading holds, each counted each time it is reached (what is shared counts as often as it is met; a slice's spare places count too). A statement '..UptoSaid' is the law's where the arguments, and the package variables that the reading takes, are together of bulk at most 1048576: NARROWER than '..Said'. Prove '..Said' where nothing that the law and all that it calls make is longer than what came in: it says more and counts as full. Else prove '..UptoSaid'. A law counts once. -/
mutual
def uptoBulk {H : Type} : DataW H → Nat
  | .lit (.string bytes) => bytes.length + 1
  | .lit _ => 1
  | .nil => 1
  | .ptr d => uptoBulk d + 1
  | .slice elems spare => uptoBulkAll elems + uptoBulkAll spare + 1
  | .agg parts => uptoBulkAll parts + 1
  | .iface _ d => uptoBulk d + 1
  | .map entries => uptoBulkEntries entries + 1
  | .held _ => 1
def uptoBulkAll {H : Type} : List (DataW H) → Nat
  | [] => 0
  | d :: r => uptoBulk d + uptoBulkAll r
def uptoBulkEntries {H : Type} : List (Lit × DataW H) → Nat
  | [] => 0
  | x :: r => uptoBulkEntry x + uptoBulkEntries r
def uptoBulkEntry {H : Type} : Lit × DataW H → Nat
  | (.string bytes, d) => bytes.length + uptoBulk d + 1
  | (_, d) => uptoBulk d + 1
 end
def uptoSmall : (H : Type) → List (DataW H) → Bool := fun _ ds => decide (uptoBulkAll ds ≤ 1048576)
def OpenSpec.upto (s : _root_.Go.ChangeSpec) : _root_.Go.OpenSpec := { _root_.Go.OpenSpec.ofChange s with cond := some uptoSmall }

/-- 'laws.FnExactIsLabel', WHERE WHAT IT READS IS OF BULK AT MOST 1048576: true; the input reads as it did. -/
def fnExactIsLabelUptoRow : OpenClaim := { program := "ytabllmoeehjknaa", sum := "5194672db12c64131a22fd0b550efd8e541eea93d8d62430ecee3409f68f45e6", func := "loop.example/g01175/laws.FnExactIsLabel", spec := "fnExactIsLabel", apart := false, narrowed := true }
def FnExactIsLabelUptoSaid : Prop := fnExactIsLabelUptoRow.holds Try.pinned (OpenSpec.upto fnExactIsLabelSpec)

/-- 'laws.FnExactSubjectOf', WHERE WHAT IT READS IS OF BULK AT MOST 1048576: true; the input reads as it did. -/
def fnExactSubjectOfUptoRow : OpenClaim := { program := "ytabllmoeehjknaa", sum := "5194672db12c64131a22fd0b550efd8e541eea93d8d62430ecee3409f68f45e6", func := "loop.example/g01175/laws.FnExactSubjectOf", spec := "fnExactSubjectOf", apart := false, narrowed := true }
def FnExactSubjectOfUptoSaid : Prop := fnExactSubjectOfUptoRow.holds Try.pinned (OpenSpec.upto fnExactSubjectOfSpec)

/-- 'laws.FnExactObjectOf', WHERE WHAT IT READS IS OF BULK AT MOST 1048576: true; the input reads as it did. -/
def fnExactObjectOfUptoRow : OpenClaim := { program := "ytabllmoeehjknaa", sum := "5194672db12c64131a22fd0b550efd8e541eea93d8d62430ecee3409f68f45e6", func := "loop.example/g01175/laws.FnExactObjectOf", spec := "fnExactObjectOf", apart := false, narrowed := true }
def FnExactObjectOfUptoSaid : Prop := fnExactObjectOfUptoRow.holds Try.pinned (OpenSpec.upto fnExactObjectOfSpec)

end Rows
end Go.Proofs.Ytabllmoeehjknaa
