/-
  No cell of these rows narrows 'for every input' (looked for: loops, veiled, ifaces, maps, wideKeys, modest, calm, conditions, laid).
  DERIVED. THE GIVEN ROWS OF THIS SEAT. 4 by the template 'for every input the law returns true; each argument reads behind the call as it read before'; 0 by the template 'total and deterministic' (their statements: YtdfelpahacmdpabTotals.lean).
  GIVEN WITH THE SEED: the statements are not yours to turn. If you find one false, say at which input.
  Laid BY PROGRAM, IN A SANDBOX (cutbox-rows.mjs): the forced cells as the released guide's own fill.sh prints them over the translation 679b08c6d9b09239… (all of the seat's roots in one cut). By AI agents, Wed Nov 11 2026. No macro, syntax, notation, axiom, sorry.
-/
import Derived.Test.YtdfelpahacmdpabChecked
import GoSem.Claim
import GoSem.ClaimJoined
import GoSem.ClaimMapViews
import Derived.JoinedTies
import Derived.KernelRfl
namespace Go.Proofs.Ytdfelpahacmdpab
/- THE CELL 'sum', in the pinned program and in every row, IS THE sha256 OF THE DUMP (.gsa) THAT YtdfelpahacmdpabProg.lean LOADS. Nothing in Lean hashes anything: it is a label: what it is worth is what the hold of that sum in a sandbox is worth. -/
noncomputable def Try.pinned : Pinned := { name := "ytdfelpahacmdpab", sum := "679b08c6d9b092396be229c7959e2c29545f15eb683fe909525ed0022d64a286", checked := Try.checked }
namespace Rows
def none {H : Type} : Left H := { results := [], args := [] }

/-- 'laws.FnExactUsesOf': WHATEVER THE INPUT: true; the input reads as it did. -/
def fnExactUsesOfSpec : ChangeSpec := { name := "fnExactUsesOf", fn := fun _ => fun
  | [d1, d2] => { results := [.lit (.bool true)], args := [d1, d2] }
  | _ => none }
def fnExactUsesOfRow : OpenClaim := { program := "ytdfelpahacmdpab", sum := "679b08c6d9b092396be229c7959e2c29545f15eb683fe909525ed0022d64a286", func := "loop.example/g01175/laws.FnExactUsesOf", spec := "fnExactUsesOf", unfollowed := true, recurses := true, apart := false }
def FnExactUsesOfSaid : Prop := fnExactUsesOfRow.holds Try.pinned (OpenSpec.ofChange fnExactUsesOfSpec)

/-- ITS FALSE NEIGHBOUR: 'it returns false'. Refute it at one input. -/
def fnExactUsesOfWrong : ChangeSpec := { name := "fnExactUsesOf", fn := fun _ => fun
  | [d1, d2] => { results := [.lit (.bool false)], args := [d1, d2] }
  | _ => none }
def FnExactUsesOfWrongFalsely : Prop := fnExactUsesOfRow.holds Try.pinned (OpenSpec.ofChange fnExactUsesOfWrong)

/-- 'laws.FnExactCountUses': WHATEVER THE INPUT: true; the input reads as it did. -/
def fnExactCountUsesSpec : ChangeSpec := { name := "fnExactCountUses", fn := fun _ => fun
  | [d1, d2] => { results := [.lit (.bool true)], args := [d1, d2] }
  | _ => none }
def fnExactCountUsesRow : OpenClaim := { program := "ytdfelpahacmdpab", sum := "679b08c6d9b092396be229c7959e2c29545f15eb683fe909525ed0022d64a286", func := "loop.example/g01175/laws.FnExactCountUses", spec := "fnExactCountUses", unfollowed := true, recurses := true, apart := false }
def FnExactCountUsesSaid : Prop := fnExactCountUsesRow.holds Try.pinned (OpenSpec.ofChange fnExactCountUsesSpec)

/-- ITS FALSE NEIGHBOUR: 'it returns false'. Refute it at one input. -/
def fnExactCountUsesWrong : ChangeSpec := { name := "fnExactCountUses", fn := fun _ => fun
  | [d1, d2] => { results := [.lit (.bool false)], args := [d1, d2] }
  | _ => none }
def FnExactCountUsesWrongFalsely : Prop := fnExactCountUsesRow.holds Try.pinned (OpenSpec.ofChange fnExactCountUsesWrong)

/-- 'laws.FnExactIsLinear': WHATEVER THE INPUT: true; the input reads as it did. -/
def fnExactIsLinearSpec : ChangeSpec := { name := "fnExactIsLinear", fn := fun _ => fun
  | [d1, d2] => { results := [.lit (.bool true)], args := [d1, d2] }
  | _ => none }
def fnExactIsLinearRow : OpenClaim := { program := "ytdfelpahacmdpab", sum := "679b08c6d9b092396be229c7959e2c29545f15eb683fe909525ed0022d64a286", func := "loop.example/g01175/laws.FnExactIsLinear", spec := "fnExactIsLinear", unfollowed := true, recurses := true, apart := false }
def FnExactIsLinearSaid : Prop := fnExactIsLinearRow.holds Try.pinned (OpenSpec.ofChange fnExactIsLinearSpec)

/-- ITS FALSE NEIGHBOUR: 'it returns false'. Refute it at one input. -/
def fnExactIsLinearWrong : ChangeSpec := { name := "fnExactIsLinear", fn := fun _ => fun
  | [d1, d2] => { results := [.lit (.bool false)], args := [d1, d2] }
  | _ => none }
def FnExactIsLinearWrongFalsely : Prop := fnExactIsLinearRow.holds Try.pinned (OpenSpec.ofChange fnExactIsLinearWrong)

/-- 'laws.FnExactSendsLast': WHATEVER THE INPUT: true; the input reads as it did. -/
def fnExactSendsLastSpec : ChangeSpec := { name := "fnExactSendsLast", fn := fun _ => fun
  | [d] => { results := [.lit (.bool true)], args := [d] }
  | _ => none }
def fnExactSendsLastRow : OpenClaim := { program := "ytdfelpahacmdpab", sum := "679b08c6d9b092396be229c7959e2c29545f15eb683fe909525ed0022d64a286", func := "loop.example/g01175/laws.FnExactSendsLast", spec := "fnExactSendsLast", unfollowed := true, recurses := true, apart := false }
def FnExactSendsLastSaid : Prop := fnExactSendsLastRow.holds Try.pinned (OpenSpec.ofChange fnExactSendsLastSpec)

/-- ITS FALSE NEIGHBOUR: 'it returns false'. Refute it at one input. -/
def fnExactSendsLastWrong : ChangeSpec := { name := "fnExactSendsLast", fn := fun _ => fun
  | [d] => { results := [.lit (.bool false)], args := [d] }
  | _ => none }
def FnExactSendsLastWrongFalsely : Prop := fnExactSendsLastRow.holds Try.pinned (OpenSpec.ofChange fnExactSendsLastWrong)

/- THE SECOND FORM. 'bulk': how many values and letters a reading holds, each counted each time it is reached (what is shared counts as often as it is met; a slice's spare places count too). A statement '..UptoSaid' is the law's where the arguments, and the package variables that the reading takes, are together of bulk at most 1048576: NARROWER than '..Said'. Prove '..Said' where nothing that the law and all that it calls make is longer than what came in: it says more and counts as full. Else prove '..UptoSaid'. A law counts once. -/
mutual
def uptoBulk {H : Type} : DataW H → Nat
  | .lit (.string bytes) => bytes.length + 1
  | .lit _ => 1
  | .nil => 1
  | .ptr d => uptoBulk d + 1
  | .slice elems spare => uptoBulkAll elems + uptoBulkAll spare + 1
  | .agg parts => uptoBulkAll parts + 1
  | .iface _ d => uptoBulk d + 1
  | .map entries => uptoBulkEntries entries + 1
  | .held _ => 1
def uptoBulkAll {H : Type} : List (DataW H) → Nat
  | [] => 0
  | d :: r => uptoBulk d + uptoBulkAll r
def uptoBulkEntries {H : Type} : List (Lit × DataW H) → Nat
  | [] => 0
  | x :: r => uptoBulkEntry x + uptoBulkEntries r
def uptoBulkEntry {H : Type} : Lit × DataW H → Nat
  | (.string bytes, d) => bytes.length + uptoBulk d + 1
  | (_, d) => uptoBulk d + 1
 end
def uptoSmall : (H : Type) → List (DataW H) → Bool := fun _ ds => decide (uptoBulkAll ds ≤ 1048576)
def OpenSpec.upto (s : _root_.Go.ChangeSpec) : _root_.Go.OpenSpec := { _root_.Go.OpenSpec.ofChange s with cond := some uptoSmall }

/-- 'laws.FnExactUsesOf', WHERE WHAT IT READS IS OF BULK AT MOST 1048576: true; the input reads as it did. -/
def fnExactUsesOfUptoRow : OpenClaim := { program := "ytdfelpahacmdpab", sum := "679b08c6d9b092396be229c7959e2c29545f15eb683fe909525ed0022d64a286", func := "loop.example/g01175/laws.FnExactUsesOf", spec := "fnExactUsesOf", unfollowed := true, recurses := true, apart := false, narrowed := true }
def FnExactUsesOfUptoSaid : Prop := fnExactUsesOfUptoRow.holds Try.pinned (OpenSpec.upto fnExactUsesOfSpec)

/-- 'laws.FnExactCountUses', WHERE WHAT IT READS IS OF BULK AT MOST 1048576: true; the input reads as it did. -/
def fnExactCountUsesUptoRow : OpenClaim := { program := "ytdfelpahacmdpab", sum := "679b08c6d9b092396be229c7959e2c29545f15eb683fe909525ed0022d64a286", func := "loop.example/g01175/laws.FnExactCountUses", spec := "fnExactCountUses", unfollowed := true, recurses := true, apart := false, narrowed := true }
def FnExactCountUsesUptoSaid : Prop := fnExactCountUsesUptoRow.holds Try.pinned (OpenSpec.upto fnExactCountUsesSpec)

/-- 'laws.FnExactIsLinear', WHERE WHAT IT READS IS OF BULK AT MOST 1048576: true; the input reads as it did. -/
def fnExactIsLinearUptoRow : OpenClaim := { program := "ytdfelpahacmdpab", sum := "679b08c6d9b092396be229c7959e2c29545f15eb683fe909525ed0022d64a286", func := "loop.example/g01175/laws.FnExactIsLinear", spec := "fnExactIsLinear", unfollowed := true, recurses := true, apart := false, narrowed := true }
def FnExactIsLinearUptoSaid : Prop := fnExactIsLinearUptoRow.holds Try.pinned (OpenSpec.upto fnExactIsLinearSpec)

/-- 'laws.FnExactSendsLast', WHERE WHAT IT READS IS OF BULK AT MOST 1048576: true; the input reads as it did. -/
def fnExactSendsLastUptoRow : OpenClaim := { program := "ytdfelpahacmdpab", sum := "679b08c6d9b092396be229c7959e2c29545f15eb683fe909525ed0022d64a286", func := "loop.example/g01175/laws.FnExactSendsLast", spec := "fnExactSendsLast", unfollowed := true, recurses := true, apart := false, narrowed := true }
def FnExactSendsLastUptoSaid : Prop := fnExactSendsLastUptoRow.holds Try.pinned (OpenSpec.upto fnExactSendsLastSpec)

end Rows
end Go.Proofs.Ytdfelpahacmdpab
