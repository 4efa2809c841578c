/-
  No cell of these rows narrows 'for every input' (looked for: loops, veiled, ifaces, maps, wideKeys, modest, calm, conditions, laid).
  DERIVED. THE GIVEN ROWS OF THIS SEAT. 4 by the template 'for every input the law returns true; each argument reads behind the call as it read before'; 0 by the template 'total and deterministic' (their statements: YtmfmagfgcdaeeaaGreatTotals.lean).
  GIVEN WITH THE SEED: the statements are not yours to turn. If you find one false, say at which input.
  Laid BY PROGRAM, IN A SANDBOX (cutbox-rows.mjs): the forced cells as the released guide's own fill.sh prints them over the translation 4d8d96fbbdeccb1e… (all of the seat's roots in one cut). By AI agents, Wed Nov 11 2026. No macro, syntax, notation, axiom, sorry.
-/
import Derived.Test.YtmfmagfgcdaeeaaGreatChecked
import GoSem.Claim
import GoSem.ClaimJoined
import GoSem.ClaimMapViews
import Derived.JoinedTies
import Derived.KernelRfl
namespace Go.Proofs.YtmfmagfgcdaeeaaGreat
/- THE CELL 'sum', in the pinned program and in every row, IS THE sha256 OF THE DUMP (.gsa) THAT YtmfmagfgcdaeeaaGreatProg.lean LOADS. Nothing in Lean hashes anything: it is a label: what it is worth is what the hold of that sum in a sandbox is worth. -/
noncomputable def Tryz.pinned : Pinned := { name := "ytmfmagfgcdaeeaagreat", sum := "4d8d96fbbdeccb1ee46afb7ddff88657469355c7ed8ad4801a75d1b189a2eee4", checked := Tryz.checked }
namespace Rows
def none {H : Type} : Left H := { results := [], args := [] }

/-- 'laws.FnCanonicalNames': WHATEVER THE INPUT: true; the input reads as it did. -/
def fnCanonicalNamesSpec : ChangeSpec := { name := "fnCanonicalNames", fn := fun _ => fun
  | [d1, d2] => { results := [.lit (.bool true)], args := [d1, d2] }
  | _ => none }
def fnCanonicalNamesRow : OpenClaim := { program := "ytmfmagfgcdaeeaagreat", sum := "4d8d96fbbdeccb1ee46afb7ddff88657469355c7ed8ad4801a75d1b189a2eee4", func := "loop.example/g01175/laws.FnCanonicalNames", spec := "fnCanonicalNames", unfollowed := true, recurses := true, apart := false }
def FnCanonicalNamesSaid : Prop := fnCanonicalNamesRow.holds Tryz.pinned (OpenSpec.ofChange fnCanonicalNamesSpec)

/-- ITS FALSE NEIGHBOUR: 'it returns false'. Refute it at one input. -/
def fnCanonicalNamesWrong : ChangeSpec := { name := "fnCanonicalNames", fn := fun _ => fun
  | [d1, d2] => { results := [.lit (.bool false)], args := [d1, d2] }
  | _ => none }
def FnCanonicalNamesWrongFalsely : Prop := fnCanonicalNamesRow.holds Tryz.pinned (OpenSpec.ofChange fnCanonicalNamesWrong)

/-- 'laws.FnOneNormalForm': WHATEVER THE INPUT: true; the input reads as it did. -/
def fnOneNormalFormSpec : ChangeSpec := { name := "fnOneNormalForm", fn := fun _ => fun
  | [d1, d2] => { results := [.lit (.bool true)], args := [d1, d2] }
  | _ => none }
def fnOneNormalFormRow : OpenClaim := { program := "ytmfmagfgcdaeeaagreat", sum := "4d8d96fbbdeccb1ee46afb7ddff88657469355c7ed8ad4801a75d1b189a2eee4", func := "loop.example/g01175/laws.FnOneNormalForm", spec := "fnOneNormalForm", unfollowed := true, recurses := true, apart := false }
def FnOneNormalFormSaid : Prop := fnOneNormalFormRow.holds Tryz.pinned (OpenSpec.ofChange fnOneNormalFormSpec)

/-- ITS FALSE NEIGHBOUR: 'it returns false'. Refute it at one input. -/
def fnOneNormalFormWrong : ChangeSpec := { name := "fnOneNormalForm", fn := fun _ => fun
  | [d1, d2] => { results := [.lit (.bool false)], args := [d1, d2] }
  | _ => none }
def FnOneNormalFormWrongFalsely : Prop := fnOneNormalFormRow.holds Tryz.pinned (OpenSpec.ofChange fnOneNormalFormWrong)

/-- 'laws.FnThreadsAndParts': WHATEVER THE INPUT: true; the input reads as it did. -/
def fnThreadsAndPartsSpec : ChangeSpec := { name := "fnThreadsAndParts", fn := fun _ => fun
  | [d1, d2] => { results := [.lit (.bool true)], args := [d1, d2] }
  | _ => none }
def fnThreadsAndPartsRow : OpenClaim := { program := "ytmfmagfgcdaeeaagreat", sum := "4d8d96fbbdeccb1ee46afb7ddff88657469355c7ed8ad4801a75d1b189a2eee4", func := "loop.example/g01175/laws.FnThreadsAndParts", spec := "fnThreadsAndParts", unfollowed := true, recurses := true, apart := false }
def FnThreadsAndPartsSaid : Prop := fnThreadsAndPartsRow.holds Tryz.pinned (OpenSpec.ofChange fnThreadsAndPartsSpec)

/-- ITS FALSE NEIGHBOUR: 'it returns false'. Refute it at one input. -/
def fnThreadsAndPartsWrong : ChangeSpec := { name := "fnThreadsAndParts", fn := fun _ => fun
  | [d1, d2] => { results := [.lit (.bool false)], args := [d1, d2] }
  | _ => none }
def FnThreadsAndPartsWrongFalsely : Prop := fnThreadsAndPartsRow.holds Tryz.pinned (OpenSpec.ofChange fnThreadsAndPartsWrong)

/-- 'laws.FnJoinedAndHidden': WHATEVER THE INPUT: true; the input reads as it did. -/
def fnJoinedAndHiddenSpec : ChangeSpec := { name := "fnJoinedAndHidden", fn := fun _ => fun
  | [d1, d2] => { results := [.lit (.bool true)], args := [d1, d2] }
  | _ => none }
def fnJoinedAndHiddenRow : OpenClaim := { program := "ytmfmagfgcdaeeaagreat", sum := "4d8d96fbbdeccb1ee46afb7ddff88657469355c7ed8ad4801a75d1b189a2eee4", func := "loop.example/g01175/laws.FnJoinedAndHidden", spec := "fnJoinedAndHidden", unfollowed := true, recurses := true, apart := false }
def FnJoinedAndHiddenSaid : Prop := fnJoinedAndHiddenRow.holds Tryz.pinned (OpenSpec.ofChange fnJoinedAndHiddenSpec)

/-- ITS FALSE NEIGHBOUR: 'it returns false'. Refute it at one input. -/
def fnJoinedAndHiddenWrong : ChangeSpec := { name := "fnJoinedAndHidden", fn := fun _ => fun
  | [d1, d2] => { results := [.lit (.bool false)], args := [d1, d2] }
  | _ => none }
def FnJoinedAndHiddenWrongFalsely : Prop := fnJoinedAndHiddenRow.holds Tryz.pinned (OpenSpec.ofChange fnJoinedAndHiddenWrong)

/- THE SECOND FORM. 'bulk': how many values and letters a reading holds, each counted each time it is reached (what is shared counts as often as it is met; a slice's spare places count too). A statement '..UptoSaid' is the law's where the arguments, and the package variables that the reading takes, are together of bulk at most 1048576: NARROWER than '..Said'. Prove '..Said' where nothing that the law and all that it calls make is longer than what came in: it says more and counts as full. Else prove '..UptoSaid'. A law counts once. -/
mutual
def uptoBulk {H : Type} : DataW H → Nat
  | .lit (.string bytes) => bytes.length + 1
  | .lit _ => 1
  | .nil => 1
  | .ptr d => uptoBulk d + 1
  | .slice elems spare => uptoBulkAll elems + uptoBulkAll spare + 1
  | .agg parts => uptoBulkAll parts + 1
  | .iface _ d => uptoBulk d + 1
  | .map entries => uptoBulkEntries entries + 1
  | .held _ => 1
def uptoBulkAll {H : Type} : List (DataW H) → Nat
  | [] => 0
  | d :: r => uptoBulk d + uptoBulkAll r
def uptoBulkEntries {H : Type} : List (Lit × DataW H) → Nat
  | [] => 0
  | x :: r => uptoBulkEntry x + uptoBulkEntries r
def uptoBulkEntry {H : Type} : Lit × DataW H → Nat
  | (.string bytes, d) => bytes.length + uptoBulk d + 1
  | (_, d) => uptoBulk d + 1
 end
def uptoSmall : (H : Type) → List (DataW H) → Bool := fun _ ds => decide (uptoBulkAll ds ≤ 1048576)
def OpenSpec.upto (s : _root_.Go.ChangeSpec) : _root_.Go.OpenSpec := { _root_.Go.OpenSpec.ofChange s with cond := some uptoSmall }

/-- 'laws.FnCanonicalNames', WHERE WHAT IT READS IS OF BULK AT MOST 1048576: true; the input reads as it did. -/
def fnCanonicalNamesUptoRow : OpenClaim := { program := "ytmfmagfgcdaeeaagreat", sum := "4d8d96fbbdeccb1ee46afb7ddff88657469355c7ed8ad4801a75d1b189a2eee4", func := "loop.example/g01175/laws.FnCanonicalNames", spec := "fnCanonicalNames", unfollowed := true, recurses := true, apart := false, narrowed := true }
def FnCanonicalNamesUptoSaid : Prop := fnCanonicalNamesUptoRow.holds Tryz.pinned (OpenSpec.upto fnCanonicalNamesSpec)

/-- 'laws.FnOneNormalForm', WHERE WHAT IT READS IS OF BULK AT MOST 1048576: true; the input reads as it did. -/
def fnOneNormalFormUptoRow : OpenClaim := { program := "ytmfmagfgcdaeeaagreat", sum := "4d8d96fbbdeccb1ee46afb7ddff88657469355c7ed8ad4801a75d1b189a2eee4", func := "loop.example/g01175/laws.FnOneNormalForm", spec := "fnOneNormalForm", unfollowed := true, recurses := true, apart := false, narrowed := true }
def FnOneNormalFormUptoSaid : Prop := fnOneNormalFormUptoRow.holds Tryz.pinned (OpenSpec.upto fnOneNormalFormSpec)

/-- 'laws.FnThreadsAndParts', WHERE WHAT IT READS IS OF BULK AT MOST 1048576: true; the input reads as it did. -/
def fnThreadsAndPartsUptoRow : OpenClaim := { program := "ytmfmagfgcdaeeaagreat", sum := "4d8d96fbbdeccb1ee46afb7ddff88657469355c7ed8ad4801a75d1b189a2eee4", func := "loop.example/g01175/laws.FnThreadsAndParts", spec := "fnThreadsAndParts", unfollowed := true, recurses := true, apart := false, narrowed := true }
def FnThreadsAndPartsUptoSaid : Prop := fnThreadsAndPartsUptoRow.holds Tryz.pinned (OpenSpec.upto fnThreadsAndPartsSpec)

/-- 'laws.FnJoinedAndHidden', WHERE WHAT IT READS IS OF BULK AT MOST 1048576: true; the input reads as it did. -/
def fnJoinedAndHiddenUptoRow : OpenClaim := { program := "ytmfmagfgcdaeeaagreat", sum := "4d8d96fbbdeccb1ee46afb7ddff88657469355c7ed8ad4801a75d1b189a2eee4", func := "loop.example/g01175/laws.FnJoinedAndHidden", spec := "fnJoinedAndHidden", unfollowed := true, recurses := true, apart := false, narrowed := true }
def FnJoinedAndHiddenUptoSaid : Prop := fnJoinedAndHiddenUptoRow.holds Tryz.pinned (OpenSpec.upto fnJoinedAndHiddenSpec)

end Rows
end Go.Proofs.YtmfmagfgcdaeeaaGreat
