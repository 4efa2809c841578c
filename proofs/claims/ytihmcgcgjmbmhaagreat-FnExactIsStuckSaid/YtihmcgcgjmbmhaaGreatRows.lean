/-
  No cell of these rows narrows 'for every input' (looked for: loops, veiled, ifaces, maps, wideKeys, modest, calm, conditions, laid).
  DERIVED. THE GIVEN ROWS OF THIS SEAT. 10 by the template 'for every input the law returns true; each argument reads behind the call as it read before'; 0 by the template 'total and deterministic' (their statements: YtihmcgcgjmbmhaaGreatTotals.lean).
  GIVEN WITH THE SEED: the statements are not yours to turn. If you find one false, say at which input.
  Laid BY PROGRAM, IN A SANDBOX (cutbox-rows.mjs): the forced cells as the released guide's own fill.sh prints them over the translation 4db5f727393f4ec6… (all of the seat's roots in one cut). By AI agents, Wed Nov 11 2026. No macro, syntax, notation, axiom, sorry.
-/
import Derived.Test.YtihmcgcgjmbmhaaGreatChecked
import GoSem.Claim
import GoSem.ClaimJoined
import GoSem.ClaimMapViews
import Derived.JoinedTies
import Derived.KernelRfl
namespace Go.Proofs.YtihmcgcgjmbmhaaGreat
/- THE CELL 'sum', in the pinned program and in every row, IS THE sha256 OF THE DUMP (.gsa) THAT YtihmcgcgjmbmhaaGreatProg.lean LOADS. Nothing in Lean hashes anything: it is a label: what it is worth is what the hold of that sum in a sandbox is worth. -/
noncomputable def Tryz.pinned : Pinned := { name := "ytihmcgcgjmbmhaagreat", sum := "4db5f727393f4ec6e60d625225275215975dff8bd5742a426981132b1de5c475", checked := Tryz.checked }
namespace Rows
def none {H : Type} : Left H := { results := [], args := [] }

/-- 'laws.FnExactReductionsOf': WHATEVER THE INPUT: true; the input reads as it did. -/
def fnExactReductionsOfSpec : ChangeSpec := { name := "fnExactReductionsOf", fn := fun _ => fun
  | [d] => { results := [.lit (.bool true)], args := [d] }
  | _ => none }
def fnExactReductionsOfRow : OpenClaim := { program := "ytihmcgcgjmbmhaagreat", sum := "4db5f727393f4ec6e60d625225275215975dff8bd5742a426981132b1de5c475", func := "loop.example/g01175/laws.FnExactReductionsOf", spec := "fnExactReductionsOf", unfollowed := true, recurses := true, plainKeys := false, apart := false }
def FnExactReductionsOfSaid : Prop := fnExactReductionsOfRow.holds Tryz.pinned (OpenSpec.ofChange fnExactReductionsOfSpec)

/-- ITS FALSE NEIGHBOUR: 'it returns false'. Refute it at one input. -/
def fnExactReductionsOfWrong : ChangeSpec := { name := "fnExactReductionsOf", fn := fun _ => fun
  | [d] => { results := [.lit (.bool false)], args := [d] }
  | _ => none }
def FnExactReductionsOfWrongFalsely : Prop := fnExactReductionsOfRow.holds Tryz.pinned (OpenSpec.ofChange fnExactReductionsOfWrong)

/-- 'laws.FnExactCountReductions': WHATEVER THE INPUT: true; the input reads as it did. -/
def fnExactCountReductionsSpec : ChangeSpec := { name := "fnExactCountReductions", fn := fun _ => fun
  | [d] => { results := [.lit (.bool true)], args := [d] }
  | _ => none }
def fnExactCountReductionsRow : OpenClaim := { program := "ytihmcgcgjmbmhaagreat", sum := "4db5f727393f4ec6e60d625225275215975dff8bd5742a426981132b1de5c475", func := "loop.example/g01175/laws.FnExactCountReductions", spec := "fnExactCountReductions", unfollowed := true, recurses := true, plainKeys := false, apart := false }
def FnExactCountReductionsSaid : Prop := fnExactCountReductionsRow.holds Tryz.pinned (OpenSpec.ofChange fnExactCountReductionsSpec)

/-- ITS FALSE NEIGHBOUR: 'it returns false'. Refute it at one input. -/
def fnExactCountReductionsWrong : ChangeSpec := { name := "fnExactCountReductions", fn := fun _ => fun
  | [d] => { results := [.lit (.bool false)], args := [d] }
  | _ => none }
def FnExactCountReductionsWrongFalsely : Prop := fnExactCountReductionsRow.holds Tryz.pinned (OpenSpec.ofChange fnExactCountReductionsWrong)

/-- 'laws.FnExactIsStuck': WHATEVER THE INPUT: true; the input reads as it did. -/
def fnExactIsStuckSpec : ChangeSpec := { name := "fnExactIsStuck", fn := fun _ => fun
  | [d] => { results := [.lit (.bool true)], args := [d] }
  | _ => none }
def fnExactIsStuckRow : OpenClaim := { program := "ytihmcgcgjmbmhaagreat", sum := "4db5f727393f4ec6e60d625225275215975dff8bd5742a426981132b1de5c475", func := "loop.example/g01175/laws.FnExactIsStuck", spec := "fnExactIsStuck", unfollowed := true, recurses := true, plainKeys := false, apart := false }
def FnExactIsStuckSaid : Prop := fnExactIsStuckRow.holds Tryz.pinned (OpenSpec.ofChange fnExactIsStuckSpec)

/-- ITS FALSE NEIGHBOUR: 'it returns false'. Refute it at one input. -/
def fnExactIsStuckWrong : ChangeSpec := { name := "fnExactIsStuck", fn := fun _ => fun
  | [d] => { results := [.lit (.bool false)], args := [d] }
  | _ => none }
def FnExactIsStuckWrongFalsely : Prop := fnExactIsStuckRow.holds Tryz.pinned (OpenSpec.ofChange fnExactIsStuckWrong)

/-- 'laws.FnExactRunBy': WHATEVER THE INPUT: true; the input reads as it did. -/
def fnExactRunBySpec : ChangeSpec := { name := "fnExactRunBy", fn := fun _ => fun
  | [d1, d2] => { results := [.lit (.bool true)], args := [d1, d2] }
  | _ => none }
def fnExactRunByRow : OpenClaim := { program := "ytihmcgcgjmbmhaagreat", sum := "4db5f727393f4ec6e60d625225275215975dff8bd5742a426981132b1de5c475", func := "loop.example/g01175/laws.FnExactRunBy", spec := "fnExactRunBy", unfollowed := true, recurses := true, plainKeys := false, apart := false }
def FnExactRunBySaid : Prop := fnExactRunByRow.holds Tryz.pinned (OpenSpec.ofChange fnExactRunBySpec)

/-- ITS FALSE NEIGHBOUR: 'it returns false'. Refute it at one input. -/
def fnExactRunByWrong : ChangeSpec := { name := "fnExactRunBy", fn := fun _ => fun
  | [d1, d2] => { results := [.lit (.bool false)], args := [d1, d2] }
  | _ => none }
def FnExactRunByWrongFalsely : Prop := fnExactRunByRow.holds Tryz.pinned (OpenSpec.ofChange fnExactRunByWrong)

/-- 'laws.FnExactReachedFrom': WHATEVER THE INPUT: true; the input reads as it did. -/
def fnExactReachedFromSpec : ChangeSpec := { name := "fnExactReachedFrom", fn := fun _ => fun
  | [d] => { results := [.lit (.bool true)], args := [d] }
  | _ => none }
def fnExactReachedFromRow : OpenClaim := { program := "ytihmcgcgjmbmhaagreat", sum := "4db5f727393f4ec6e60d625225275215975dff8bd5742a426981132b1de5c475", func := "loop.example/g01175/laws.FnExactReachedFrom", spec := "fnExactReachedFrom", unfollowed := true, recurses := true, plainKeys := false, apart := false }
def FnExactReachedFromSaid : Prop := fnExactReachedFromRow.holds Tryz.pinned (OpenSpec.ofChange fnExactReachedFromSpec)

/-- ITS FALSE NEIGHBOUR: 'it returns false'. Refute it at one input. -/
def fnExactReachedFromWrong : ChangeSpec := { name := "fnExactReachedFrom", fn := fun _ => fun
  | [d] => { results := [.lit (.bool false)], args := [d] }
  | _ => none }
def FnExactReachedFromWrongFalsely : Prop := fnExactReachedFromRow.holds Tryz.pinned (OpenSpec.ofChange fnExactReachedFromWrong)

/-- 'laws.FnExactStuckFrom': WHATEVER THE INPUT: true; the input reads as it did. -/
def fnExactStuckFromSpec : ChangeSpec := { name := "fnExactStuckFrom", fn := fun _ => fun
  | [d] => { results := [.lit (.bool true)], args := [d] }
  | _ => none }
def fnExactStuckFromRow : OpenClaim := { program := "ytihmcgcgjmbmhaagreat", sum := "4db5f727393f4ec6e60d625225275215975dff8bd5742a426981132b1de5c475", func := "loop.example/g01175/laws.FnExactStuckFrom", spec := "fnExactStuckFrom", inPlace := ["maps.clone"], unfollowed := true, recurses := true, plainKeys := false, apart := false }
def FnExactStuckFromSaid : Prop := fnExactStuckFromRow.holds Tryz.pinned (OpenSpec.ofChange fnExactStuckFromSpec)

/-- ITS FALSE NEIGHBOUR: 'it returns false'. Refute it at one input. -/
def fnExactStuckFromWrong : ChangeSpec := { name := "fnExactStuckFrom", fn := fun _ => fun
  | [d] => { results := [.lit (.bool false)], args := [d] }
  | _ => none }
def FnExactStuckFromWrongFalsely : Prop := fnExactStuckFromRow.holds Tryz.pinned (OpenSpec.ofChange fnExactStuckFromWrong)

/-- 'laws.FnExactStepsTo': WHATEVER THE INPUT: true; the input reads as it did. -/
def fnExactStepsToSpec : ChangeSpec := { name := "fnExactStepsTo", fn := fun _ => fun
  | [d1, d2] => { results := [.lit (.bool true)], args := [d1, d2] }
  | _ => none }
def fnExactStepsToRow : OpenClaim := { program := "ytihmcgcgjmbmhaagreat", sum := "4db5f727393f4ec6e60d625225275215975dff8bd5742a426981132b1de5c475", func := "loop.example/g01175/laws.FnExactStepsTo", spec := "fnExactStepsTo", unfollowed := true, recurses := true, plainKeys := false, apart := false }
def FnExactStepsToSaid : Prop := fnExactStepsToRow.holds Tryz.pinned (OpenSpec.ofChange fnExactStepsToSpec)

/-- ITS FALSE NEIGHBOUR: 'it returns false'. Refute it at one input. -/
def fnExactStepsToWrong : ChangeSpec := { name := "fnExactStepsTo", fn := fun _ => fun
  | [d1, d2] => { results := [.lit (.bool false)], args := [d1, d2] }
  | _ => none }
def FnExactStepsToWrongFalsely : Prop := fnExactStepsToRow.holds Tryz.pinned (OpenSpec.ofChange fnExactStepsToWrong)

/-- 'laws.FnExactLongestRun': WHATEVER THE INPUT: true; the input reads as it did. -/
def fnExactLongestRunSpec : ChangeSpec := { name := "fnExactLongestRun", fn := fun _ => fun
  | [d] => { results := [.lit (.bool true)], args := [d] }
  | _ => none }
def fnExactLongestRunRow : OpenClaim := { program := "ytihmcgcgjmbmhaagreat", sum := "4db5f727393f4ec6e60d625225275215975dff8bd5742a426981132b1de5c475", func := "loop.example/g01175/laws.FnExactLongestRun", spec := "fnExactLongestRun", inPlace := ["maps.clone"], unfollowed := true, recurses := true, plainKeys := false, apart := false }
def FnExactLongestRunSaid : Prop := fnExactLongestRunRow.holds Tryz.pinned (OpenSpec.ofChange fnExactLongestRunSpec)

/-- ITS FALSE NEIGHBOUR: 'it returns false'. Refute it at one input. -/
def fnExactLongestRunWrong : ChangeSpec := { name := "fnExactLongestRun", fn := fun _ => fun
  | [d] => { results := [.lit (.bool false)], args := [d] }
  | _ => none }
def FnExactLongestRunWrongFalsely : Prop := fnExactLongestRunRow.holds Tryz.pinned (OpenSpec.ofChange fnExactLongestRunWrong)

/-- 'laws.FnExactCanGoOn': WHATEVER THE INPUT: true; the input reads as it did. -/
def fnExactCanGoOnSpec : ChangeSpec := { name := "fnExactCanGoOn", fn := fun _ => fun
  | [d] => { results := [.lit (.bool true)], args := [d] }
  | _ => none }
def fnExactCanGoOnRow : OpenClaim := { program := "ytihmcgcgjmbmhaagreat", sum := "4db5f727393f4ec6e60d625225275215975dff8bd5742a426981132b1de5c475", func := "loop.example/g01175/laws.FnExactCanGoOn", spec := "fnExactCanGoOn", inPlace := ["maps.clone"], unfollowed := true, recurses := true, plainKeys := false, apart := false }
def FnExactCanGoOnSaid : Prop := fnExactCanGoOnRow.holds Tryz.pinned (OpenSpec.ofChange fnExactCanGoOnSpec)

/-- ITS FALSE NEIGHBOUR: 'it returns false'. Refute it at one input. -/
def fnExactCanGoOnWrong : ChangeSpec := { name := "fnExactCanGoOn", fn := fun _ => fun
  | [d] => { results := [.lit (.bool false)], args := [d] }
  | _ => none }
def FnExactCanGoOnWrongFalsely : Prop := fnExactCanGoOnRow.holds Tryz.pinned (OpenSpec.ofChange fnExactCanGoOnWrong)

/-- 'laws.FnExactIsDeterminate': WHATEVER THE INPUT: true; the input reads as it did. -/
def fnExactIsDeterminateSpec : ChangeSpec := { name := "fnExactIsDeterminate", fn := fun _ => fun
  | [d] => { results := [.lit (.bool true)], args := [d] }
  | _ => none }
def fnExactIsDeterminateRow : OpenClaim := { program := "ytihmcgcgjmbmhaagreat", sum := "4db5f727393f4ec6e60d625225275215975dff8bd5742a426981132b1de5c475", func := "loop.example/g01175/laws.FnExactIsDeterminate", spec := "fnExactIsDeterminate", inPlace := ["maps.clone"], unfollowed := true, recurses := true, plainKeys := false, apart := false }
def FnExactIsDeterminateSaid : Prop := fnExactIsDeterminateRow.holds Tryz.pinned (OpenSpec.ofChange fnExactIsDeterminateSpec)

/-- ITS FALSE NEIGHBOUR: 'it returns false'. Refute it at one input. -/
def fnExactIsDeterminateWrong : ChangeSpec := { name := "fnExactIsDeterminate", fn := fun _ => fun
  | [d] => { results := [.lit (.bool false)], args := [d] }
  | _ => none }
def FnExactIsDeterminateWrongFalsely : Prop := fnExactIsDeterminateRow.holds Tryz.pinned (OpenSpec.ofChange fnExactIsDeterminateWrong)

/- THE SECOND FORM. 'bulk': how many values and letters a reading holds, each counted each time it is reached (what is shared counts as often as it is met; a slice's spare places count too). A statement '..UptoSaid' is the law's where the arguments, and the package variables that the reading takes, are together of bulk at most 1048576: NARROWER than '..Said'. Prove '..Said' where nothing that the law and all that it calls make is longer than what came in: it says more and counts as full. Else prove '..UptoSaid'. A law counts once. -/
mutual
def uptoBulk {H : Type} : DataW H → Nat
  | .lit (.string bytes) => bytes.length + 1
  | .lit _ => 1
  | .nil => 1
  | .ptr d => uptoBulk d + 1
  | .slice elems spare => uptoBulkAll elems + uptoBulkAll spare + 1
  | .agg parts => uptoBulkAll parts + 1
  | .iface _ d => uptoBulk d + 1
  | .map entries => uptoBulkEntries entries + 1
  | .held _ => 1
def uptoBulkAll {H : Type} : List (DataW H) → Nat
  | [] => 0
  | d :: r => uptoBulk d + uptoBulkAll r
def uptoBulkEntries {H : Type} : List (Lit × DataW H) → Nat
  | [] => 0
  | x :: r => uptoBulkEntry x + uptoBulkEntries r
def uptoBulkEntry {H : Type} : Lit × DataW H → Nat
  | (.string bytes, d) => bytes.length + uptoBulk d + 1
  | (_, d) => uptoBulk d + 1
 end
def uptoSmall : (H : Type) → List (DataW H) → Bool := fun _ ds => decide (uptoBulkAll ds ≤ 1048576)
def OpenSpec.upto (s : _root_.Go.ChangeSpec) : _root_.Go.OpenSpec := { _root_.Go.OpenSpec.ofChange s with cond := some uptoSmall }

/-- 'laws.FnExactReductionsOf', WHERE WHAT IT READS IS OF BULK AT MOST 1048576: true; the input reads as it did. -/
def fnExactReductionsOfUptoRow : OpenClaim := { program := "ytihmcgcgjmbmhaagreat", sum := "4db5f727393f4ec6e60d625225275215975dff8bd5742a426981132b1de5c475", func := "loop.example/g01175/laws.FnExactReductionsOf", spec := "fnExactReductionsOf", unfollowed := true, recurses := true, plainKeys := false, apart := false, narrowed := true }
def FnExactReductionsOfUptoSaid : Prop := fnExactReductionsOfUptoRow.holds Tryz.pinned (OpenSpec.upto fnExactReductionsOfSpec)

/-- 'laws.FnExactCountReductions', WHERE WHAT IT READS IS OF BULK AT MOST 1048576: true; the input reads as it did. -/
def fnExactCountReductionsUptoRow : OpenClaim := { program := "ytihmcgcgjmbmhaagreat", sum := "4db5f727393f4ec6e60d625225275215975dff8bd5742a426981132b1de5c475", func := "loop.example/g01175/laws.FnExactCountReductions", spec := "fnExactCountReductions", unfollowed := true, recurses := true, plainKeys := false, apart := false, narrowed := true }
def FnExactCountReductionsUptoSaid : Prop := fnExactCountReductionsUptoRow.holds Tryz.pinned (OpenSpec.upto fnExactCountReductionsSpec)

/-- 'laws.FnExactIsStuck', WHERE WHAT IT READS IS OF BULK AT MOST 1048576: true; the input reads as it did. -/
def fnExactIsStuckUptoRow : OpenClaim := { program := "ytihmcgcgjmbmhaagreat", sum := "4db5f727393f4ec6e60d625225275215975dff8bd5742a426981132b1de5c475", func := "loop.example/g01175/laws.FnExactIsStuck", spec := "fnExactIsStuck", unfollowed := true, recurses := true, plainKeys := false, apart := false, narrowed := true }
def FnExactIsStuckUptoSaid : Prop := fnExactIsStuckUptoRow.holds Tryz.pinned (OpenSpec.upto fnExactIsStuckSpec)

/-- 'laws.FnExactRunBy', WHERE WHAT IT READS IS OF BULK AT MOST 1048576: true; the input reads as it did. -/
def fnExactRunByUptoRow : OpenClaim := { program := "ytihmcgcgjmbmhaagreat", sum := "4db5f727393f4ec6e60d625225275215975dff8bd5742a426981132b1de5c475", func := "loop.example/g01175/laws.FnExactRunBy", spec := "fnExactRunBy", unfollowed := true, recurses := true, plainKeys := false, apart := false, narrowed := true }
def FnExactRunByUptoSaid : Prop := fnExactRunByUptoRow.holds Tryz.pinned (OpenSpec.upto fnExactRunBySpec)

/-- 'laws.FnExactReachedFrom', WHERE WHAT IT READS IS OF BULK AT MOST 1048576: true; the input reads as it did. -/
def fnExactReachedFromUptoRow : OpenClaim := { program := "ytihmcgcgjmbmhaagreat", sum := "4db5f727393f4ec6e60d625225275215975dff8bd5742a426981132b1de5c475", func := "loop.example/g01175/laws.FnExactReachedFrom", spec := "fnExactReachedFrom", unfollowed := true, recurses := true, plainKeys := false, apart := false, narrowed := true }
def FnExactReachedFromUptoSaid : Prop := fnExactReachedFromUptoRow.holds Tryz.pinned (OpenSpec.upto fnExactReachedFromSpec)

/-- 'laws.FnExactStuckFrom', WHERE WHAT IT READS IS OF BULK AT MOST 1048576: true; the input reads as it did. -/
def fnExactStuckFromUptoRow : OpenClaim := { program := "ytihmcgcgjmbmhaagreat", sum := "4db5f727393f4ec6e60d625225275215975dff8bd5742a426981132b1de5c475", func := "loop.example/g01175/laws.FnExactStuckFrom", spec := "fnExactStuckFrom", inPlace := ["maps.clone"], unfollowed := true, recurses := true, plainKeys := false, apart := false, narrowed := true }
def FnExactStuckFromUptoSaid : Prop := fnExactStuckFromUptoRow.holds Tryz.pinned (OpenSpec.upto fnExactStuckFromSpec)

/-- 'laws.FnExactStepsTo', WHERE WHAT IT READS IS OF BULK AT MOST 1048576: true; the input reads as it did. -/
def fnExactStepsToUptoRow : OpenClaim := { program := "ytihmcgcgjmbmhaagreat", sum := "4db5f727393f4ec6e60d625225275215975dff8bd5742a426981132b1de5c475", func := "loop.example/g01175/laws.FnExactStepsTo", spec := "fnExactStepsTo", unfollowed := true, recurses := true, plainKeys := false, apart := false, narrowed := true }
def FnExactStepsToUptoSaid : Prop := fnExactStepsToUptoRow.holds Tryz.pinned (OpenSpec.upto fnExactStepsToSpec)

/-- 'laws.FnExactLongestRun', WHERE WHAT IT READS IS OF BULK AT MOST 1048576: true; the input reads as it did. -/
def fnExactLongestRunUptoRow : OpenClaim := { program := "ytihmcgcgjmbmhaagreat", sum := "4db5f727393f4ec6e60d625225275215975dff8bd5742a426981132b1de5c475", func := "loop.example/g01175/laws.FnExactLongestRun", spec := "fnExactLongestRun", inPlace := ["maps.clone"], unfollowed := true, recurses := true, plainKeys := false, apart := false, narrowed := true }
def FnExactLongestRunUptoSaid : Prop := fnExactLongestRunUptoRow.holds Tryz.pinned (OpenSpec.upto fnExactLongestRunSpec)

/-- 'laws.FnExactCanGoOn', WHERE WHAT IT READS IS OF BULK AT MOST 1048576: true; the input reads as it did. -/
def fnExactCanGoOnUptoRow : OpenClaim := { program := "ytihmcgcgjmbmhaagreat", sum := "4db5f727393f4ec6e60d625225275215975dff8bd5742a426981132b1de5c475", func := "loop.example/g01175/laws.FnExactCanGoOn", spec := "fnExactCanGoOn", inPlace := ["maps.clone"], unfollowed := true, recurses := true, plainKeys := false, apart := false, narrowed := true }
def FnExactCanGoOnUptoSaid : Prop := fnExactCanGoOnUptoRow.holds Tryz.pinned (OpenSpec.upto fnExactCanGoOnSpec)

/-- 'laws.FnExactIsDeterminate', WHERE WHAT IT READS IS OF BULK AT MOST 1048576: true; the input reads as it did. -/
def fnExactIsDeterminateUptoRow : OpenClaim := { program := "ytihmcgcgjmbmhaagreat", sum := "4db5f727393f4ec6e60d625225275215975dff8bd5742a426981132b1de5c475", func := "loop.example/g01175/laws.FnExactIsDeterminate", spec := "fnExactIsDeterminate", inPlace := ["maps.clone"], unfollowed := true, recurses := true, plainKeys := false, apart := false, narrowed := true }
def FnExactIsDeterminateUptoSaid : Prop := fnExactIsDeterminateUptoRow.holds Tryz.pinned (OpenSpec.upto fnExactIsDeterminateSpec)

end Rows
end Go.Proofs.YtihmcgcgjmbmhaaGreat
