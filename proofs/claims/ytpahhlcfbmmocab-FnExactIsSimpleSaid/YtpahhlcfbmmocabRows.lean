/-
  No cell of these rows narrows 'for every input' (looked for: loops, veiled, ifaces, maps, wideKeys, modest, calm, conditions, laid).
  DERIVED. THE GIVEN ROWS OF THIS SEAT. 9 by the template 'for every input the law returns true; each argument reads behind the call as it read before'; 0 by the template 'total and deterministic' (their statements: YtpahhlcfbmmocabTotals.lean).
  GIVEN WITH THE SEED: the statements are not yours to turn. If you find one false, say at which input.
  Laid BY PROGRAM, IN A SANDBOX (cutbox-rows.mjs): the forced cells as the released guide's own fill.sh prints them over the translation 56d06b0e62798fe6… (all of the seat's roots in one cut). By AI agents, Wed Nov 11 2026. No macro, syntax, notation, axiom, sorry.
-/
import Derived.Test.YtpahhlcfbmmocabChecked
import GoSem.Claim
import GoSem.ClaimJoined
import GoSem.ClaimMapViews
import Derived.JoinedTies
import Derived.KernelRfl
namespace Go.Proofs.Ytpahhlcfbmmocab
/- THE CELL 'sum', in the pinned program and in every row, IS THE sha256 OF THE DUMP (.gsa) THAT YtpahhlcfbmmocabProg.lean LOADS. Nothing in Lean hashes anything: it is a label: what it is worth is what the hold of that sum in a sandbox is worth. -/
noncomputable def Try.pinned : Pinned := { name := "ytpahhlcfbmmocab", sum := "56d06b0e62798fe617178e0547a6669c4ad78417cd470f964ed75717cc050ca8", checked := Try.checked }
namespace Rows
def none {H : Type} : Left H := { results := [], args := [] }

/-- 'laws.FnExactBoundNames': WHATEVER THE INPUT: true; the input reads as it did. -/
def fnExactBoundNamesSpec : ChangeSpec := { name := "fnExactBoundNames", fn := fun _ => fun
  | [d] => { results := [.lit (.bool true)], args := [d] }
  | _ => none }
def fnExactBoundNamesRow : OpenClaim := { program := "ytpahhlcfbmmocab", sum := "56d06b0e62798fe617178e0547a6669c4ad78417cd470f964ed75717cc050ca8", func := "loop.example/g01175/laws.FnExactBoundNames", spec := "fnExactBoundNames", unfollowed := true, recurses := true, apart := false }
def FnExactBoundNamesSaid : Prop := fnExactBoundNamesRow.holds Try.pinned (OpenSpec.ofChange fnExactBoundNamesSpec)

/-- ITS FALSE NEIGHBOUR: 'it returns false'. Refute it at one input. -/
def fnExactBoundNamesWrong : ChangeSpec := { name := "fnExactBoundNames", fn := fun _ => fun
  | [d] => { results := [.lit (.bool false)], args := [d] }
  | _ => none }
def FnExactBoundNamesWrongFalsely : Prop := fnExactBoundNamesRow.holds Try.pinned (OpenSpec.ofChange fnExactBoundNamesWrong)

/-- 'laws.FnExactFreshName': WHATEVER THE INPUT: true; the input reads as it did. -/
def fnExactFreshNameSpec : ChangeSpec := { name := "fnExactFreshName", fn := fun _ => fun
  | [d] => { results := [.lit (.bool true)], args := [d] }
  | _ => none }
def fnExactFreshNameRow : OpenClaim := { program := "ytpahhlcfbmmocab", sum := "56d06b0e62798fe617178e0547a6669c4ad78417cd470f964ed75717cc050ca8", func := "loop.example/g01175/laws.FnExactFreshName", spec := "fnExactFreshName", apart := false }
def FnExactFreshNameSaid : Prop := fnExactFreshNameRow.holds Try.pinned (OpenSpec.ofChange fnExactFreshNameSpec)

/-- ITS FALSE NEIGHBOUR: 'it returns false'. Refute it at one input. -/
def fnExactFreshNameWrong : ChangeSpec := { name := "fnExactFreshName", fn := fun _ => fun
  | [d] => { results := [.lit (.bool false)], args := [d] }
  | _ => none }
def FnExactFreshNameWrongFalsely : Prop := fnExactFreshNameRow.holds Try.pinned (OpenSpec.ofChange fnExactFreshNameWrong)

/-- 'laws.FnExactRenameFree': WHATEVER THE INPUT: true; the input reads as it did. -/
def fnExactRenameFreeSpec : ChangeSpec := { name := "fnExactRenameFree", fn := fun _ => fun
  | [d1, d2, d3] => { results := [.lit (.bool true)], args := [d1, d2, d3] }
  | _ => none }
def fnExactRenameFreeRow : OpenClaim := { program := "ytpahhlcfbmmocab", sum := "56d06b0e62798fe617178e0547a6669c4ad78417cd470f964ed75717cc050ca8", func := "loop.example/g01175/laws.FnExactRenameFree", spec := "fnExactRenameFree", unfollowed := true, recurses := true, apart := false }
def FnExactRenameFreeSaid : Prop := fnExactRenameFreeRow.holds Try.pinned (OpenSpec.ofChange fnExactRenameFreeSpec)

/-- ITS FALSE NEIGHBOUR: 'it returns false'. Refute it at one input. -/
def fnExactRenameFreeWrong : ChangeSpec := { name := "fnExactRenameFree", fn := fun _ => fun
  | [d1, d2, d3] => { results := [.lit (.bool false)], args := [d1, d2, d3] }
  | _ => none }
def FnExactRenameFreeWrongFalsely : Prop := fnExactRenameFreeRow.holds Try.pinned (OpenSpec.ofChange fnExactRenameFreeWrong)

/-- 'laws.FnExactCanonicalNames': WHATEVER THE INPUT: true; the input reads as it did. -/
def fnExactCanonicalNamesSpec : ChangeSpec := { name := "fnExactCanonicalNames", fn := fun _ => fun
  | [d] => { results := [.lit (.bool true)], args := [d] }
  | _ => none }
def fnExactCanonicalNamesRow : OpenClaim := { program := "ytpahhlcfbmmocab", sum := "56d06b0e62798fe617178e0547a6669c4ad78417cd470f964ed75717cc050ca8", func := "loop.example/g01175/laws.FnExactCanonicalNames", spec := "fnExactCanonicalNames", unfollowed := true, recurses := true, apart := false }
def FnExactCanonicalNamesSaid : Prop := fnExactCanonicalNamesRow.holds Try.pinned (OpenSpec.ofChange fnExactCanonicalNamesSpec)

/-- ITS FALSE NEIGHBOUR: 'it returns false'. Refute it at one input. -/
def fnExactCanonicalNamesWrong : ChangeSpec := { name := "fnExactCanonicalNames", fn := fun _ => fun
  | [d] => { results := [.lit (.bool false)], args := [d] }
  | _ => none }
def FnExactCanonicalNamesWrongFalsely : Prop := fnExactCanonicalNamesRow.holds Try.pinned (OpenSpec.ofChange fnExactCanonicalNamesWrong)

/-- 'laws.FnExactAreAlpha': WHATEVER THE INPUT: true; the input reads as it did. -/
def fnExactAreAlphaSpec : ChangeSpec := { name := "fnExactAreAlpha", fn := fun _ => fun
  | [d1, d2] => { results := [.lit (.bool true)], args := [d1, d2] }
  | _ => none }
def fnExactAreAlphaRow : OpenClaim := { program := "ytpahhlcfbmmocab", sum := "56d06b0e62798fe617178e0547a6669c4ad78417cd470f964ed75717cc050ca8", func := "loop.example/g01175/laws.FnExactAreAlpha", spec := "fnExactAreAlpha", unfollowed := true, recurses := true, apart := false }
def FnExactAreAlphaSaid : Prop := fnExactAreAlphaRow.holds Try.pinned (OpenSpec.ofChange fnExactAreAlphaSpec)

/-- ITS FALSE NEIGHBOUR: 'it returns false'. Refute it at one input. -/
def fnExactAreAlphaWrong : ChangeSpec := { name := "fnExactAreAlpha", fn := fun _ => fun
  | [d1, d2] => { results := [.lit (.bool false)], args := [d1, d2] }
  | _ => none }
def FnExactAreAlphaWrongFalsely : Prop := fnExactAreAlphaRow.holds Try.pinned (OpenSpec.ofChange fnExactAreAlphaWrong)

/-- 'laws.FnExactIsWellNamed': WHATEVER THE INPUT: true; the input reads as it did. -/
def fnExactIsWellNamedSpec : ChangeSpec := { name := "fnExactIsWellNamed", fn := fun _ => fun
  | [d] => { results := [.lit (.bool true)], args := [d] }
  | _ => none }
def fnExactIsWellNamedRow : OpenClaim := { program := "ytpahhlcfbmmocab", sum := "56d06b0e62798fe617178e0547a6669c4ad78417cd470f964ed75717cc050ca8", func := "loop.example/g01175/laws.FnExactIsWellNamed", spec := "fnExactIsWellNamed", unfollowed := true, recurses := true, apart := false }
def FnExactIsWellNamedSaid : Prop := fnExactIsWellNamedRow.holds Try.pinned (OpenSpec.ofChange fnExactIsWellNamedSpec)

/-- ITS FALSE NEIGHBOUR: 'it returns false'. Refute it at one input. -/
def fnExactIsWellNamedWrong : ChangeSpec := { name := "fnExactIsWellNamed", fn := fun _ => fun
  | [d] => { results := [.lit (.bool false)], args := [d] }
  | _ => none }
def FnExactIsWellNamedWrongFalsely : Prop := fnExactIsWellNamedRow.holds Try.pinned (OpenSpec.ofChange fnExactIsWellNamedWrong)

/-- 'laws.FnExactIsGuarded': WHATEVER THE INPUT: true; the input reads as it did. -/
def fnExactIsGuardedSpec : ChangeSpec := { name := "fnExactIsGuarded", fn := fun _ => fun
  | [d] => { results := [.lit (.bool true)], args := [d] }
  | _ => none }
def fnExactIsGuardedRow : OpenClaim := { program := "ytpahhlcfbmmocab", sum := "56d06b0e62798fe617178e0547a6669c4ad78417cd470f964ed75717cc050ca8", func := "loop.example/g01175/laws.FnExactIsGuarded", spec := "fnExactIsGuarded", unfollowed := true, recurses := true, apart := false }
def FnExactIsGuardedSaid : Prop := fnExactIsGuardedRow.holds Try.pinned (OpenSpec.ofChange fnExactIsGuardedSpec)

/-- ITS FALSE NEIGHBOUR: 'it returns false'. Refute it at one input. -/
def fnExactIsGuardedWrong : ChangeSpec := { name := "fnExactIsGuarded", fn := fun _ => fun
  | [d] => { results := [.lit (.bool false)], args := [d] }
  | _ => none }
def FnExactIsGuardedWrongFalsely : Prop := fnExactIsGuardedRow.holds Try.pinned (OpenSpec.ofChange fnExactIsGuardedWrong)

/-- 'laws.FnExactIsFinite': WHATEVER THE INPUT: true; the input reads as it did. -/
def fnExactIsFiniteSpec : ChangeSpec := { name := "fnExactIsFinite", fn := fun _ => fun
  | [d] => { results := [.lit (.bool true)], args := [d] }
  | _ => none }
def fnExactIsFiniteRow : OpenClaim := { program := "ytpahhlcfbmmocab", sum := "56d06b0e62798fe617178e0547a6669c4ad78417cd470f964ed75717cc050ca8", func := "loop.example/g01175/laws.FnExactIsFinite", spec := "fnExactIsFinite", unfollowed := true, recurses := true, apart := false }
def FnExactIsFiniteSaid : Prop := fnExactIsFiniteRow.holds Try.pinned (OpenSpec.ofChange fnExactIsFiniteSpec)

/-- ITS FALSE NEIGHBOUR: 'it returns false'. Refute it at one input. -/
def fnExactIsFiniteWrong : ChangeSpec := { name := "fnExactIsFinite", fn := fun _ => fun
  | [d] => { results := [.lit (.bool false)], args := [d] }
  | _ => none }
def FnExactIsFiniteWrongFalsely : Prop := fnExactIsFiniteRow.holds Try.pinned (OpenSpec.ofChange fnExactIsFiniteWrong)

/-- 'laws.FnExactIsSimple': WHATEVER THE INPUT: true; the input reads as it did. -/
def fnExactIsSimpleSpec : ChangeSpec := { name := "fnExactIsSimple", fn := fun _ => fun
  | [d] => { results := [.lit (.bool true)], args := [d] }
  | _ => none }
def fnExactIsSimpleRow : OpenClaim := { program := "ytpahhlcfbmmocab", sum := "56d06b0e62798fe617178e0547a6669c4ad78417cd470f964ed75717cc050ca8", func := "loop.example/g01175/laws.FnExactIsSimple", spec := "fnExactIsSimple", unfollowed := true, recurses := true, apart := false }
def FnExactIsSimpleSaid : Prop := fnExactIsSimpleRow.holds Try.pinned (OpenSpec.ofChange fnExactIsSimpleSpec)

/-- ITS FALSE NEIGHBOUR: 'it returns false'. Refute it at one input. -/
def fnExactIsSimpleWrong : ChangeSpec := { name := "fnExactIsSimple", fn := fun _ => fun
  | [d] => { results := [.lit (.bool false)], args := [d] }
  | _ => none }
def FnExactIsSimpleWrongFalsely : Prop := fnExactIsSimpleRow.holds Try.pinned (OpenSpec.ofChange fnExactIsSimpleWrong)

/- THE SECOND FORM. 'bulk': how many values and letters a reading holds, each counted each time it is reached (what is shared counts as often as it is met; a slice's spare places count too). A statement '..UptoSaid' is the law's where the arguments, and the package variables that the reading takes, are together of bulk at most 1048576: NARROWER than '..Said'. Prove '..Said' where nothing that the law and all that it calls make is longer than what came in: it says more and counts as full. Else prove '..UptoSaid'. A law counts once. -/
mutual
def uptoBulk {H : Type} : DataW H → Nat
  | .lit (.string bytes) => bytes.length + 1
  | .lit _ => 1
  | .nil => 1
  | .ptr d => uptoBulk d + 1
  | .slice elems spare => uptoBulkAll elems + uptoBulkAll spare + 1
  | .agg parts => uptoBulkAll parts + 1
  | .iface _ d => uptoBulk d + 1
  | .map entries => uptoBulkEntries entries + 1
  | .held _ => 1
def uptoBulkAll {H : Type} : List (DataW H) → Nat
  | [] => 0
  | d :: r => uptoBulk d + uptoBulkAll r
def uptoBulkEntries {H : Type} : List (Lit × DataW H) → Nat
  | [] => 0
  | x :: r => uptoBulkEntry x + uptoBulkEntries r
def uptoBulkEntry {H : Type} : Lit × DataW H → Nat
  | (.string bytes, d) => bytes.length + uptoBulk d + 1
  | (_, d) => uptoBulk d + 1
 end
def uptoSmall : (H : Type) → List (DataW H) → Bool := fun _ ds => decide (uptoBulkAll ds ≤ 1048576)
def OpenSpec.upto (s : _root_.Go.ChangeSpec) : _root_.Go.OpenSpec := { _root_.Go.OpenSpec.ofChange s with cond := some uptoSmall }

/-- 'laws.FnExactBoundNames', WHERE WHAT IT READS IS OF BULK AT MOST 1048576: true; the input reads as it did. -/
def fnExactBoundNamesUptoRow : OpenClaim := { program := "ytpahhlcfbmmocab", sum := "56d06b0e62798fe617178e0547a6669c4ad78417cd470f964ed75717cc050ca8", func := "loop.example/g01175/laws.FnExactBoundNames", spec := "fnExactBoundNames", unfollowed := true, recurses := true, apart := false, narrowed := true }
def FnExactBoundNamesUptoSaid : Prop := fnExactBoundNamesUptoRow.holds Try.pinned (OpenSpec.upto fnExactBoundNamesSpec)

/-- 'laws.FnExactFreshName', WHERE WHAT IT READS IS OF BULK AT MOST 1048576: true; the input reads as it did. -/
def fnExactFreshNameUptoRow : OpenClaim := { program := "ytpahhlcfbmmocab", sum := "56d06b0e62798fe617178e0547a6669c4ad78417cd470f964ed75717cc050ca8", func := "loop.example/g01175/laws.FnExactFreshName", spec := "fnExactFreshName", apart := false, narrowed := true }
def FnExactFreshNameUptoSaid : Prop := fnExactFreshNameUptoRow.holds Try.pinned (OpenSpec.upto fnExactFreshNameSpec)

/-- 'laws.FnExactRenameFree', WHERE WHAT IT READS IS OF BULK AT MOST 1048576: true; the input reads as it did. -/
def fnExactRenameFreeUptoRow : OpenClaim := { program := "ytpahhlcfbmmocab", sum := "56d06b0e62798fe617178e0547a6669c4ad78417cd470f964ed75717cc050ca8", func := "loop.example/g01175/laws.FnExactRenameFree", spec := "fnExactRenameFree", unfollowed := true, recurses := true, apart := false, narrowed := true }
def FnExactRenameFreeUptoSaid : Prop := fnExactRenameFreeUptoRow.holds Try.pinned (OpenSpec.upto fnExactRenameFreeSpec)

/-- 'laws.FnExactCanonicalNames', WHERE WHAT IT READS IS OF BULK AT MOST 1048576: true; the input reads as it did. -/
def fnExactCanonicalNamesUptoRow : OpenClaim := { program := "ytpahhlcfbmmocab", sum := "56d06b0e62798fe617178e0547a6669c4ad78417cd470f964ed75717cc050ca8", func := "loop.example/g01175/laws.FnExactCanonicalNames", spec := "fnExactCanonicalNames", unfollowed := true, recurses := true, apart := false, narrowed := true }
def FnExactCanonicalNamesUptoSaid : Prop := fnExactCanonicalNamesUptoRow.holds Try.pinned (OpenSpec.upto fnExactCanonicalNamesSpec)

/-- 'laws.FnExactAreAlpha', WHERE WHAT IT READS IS OF BULK AT MOST 1048576: true; the input reads as it did. -/
def fnExactAreAlphaUptoRow : OpenClaim := { program := "ytpahhlcfbmmocab", sum := "56d06b0e62798fe617178e0547a6669c4ad78417cd470f964ed75717cc050ca8", func := "loop.example/g01175/laws.FnExactAreAlpha", spec := "fnExactAreAlpha", unfollowed := true, recurses := true, apart := false, narrowed := true }
def FnExactAreAlphaUptoSaid : Prop := fnExactAreAlphaUptoRow.holds Try.pinned (OpenSpec.upto fnExactAreAlphaSpec)

/-- 'laws.FnExactIsWellNamed', WHERE WHAT IT READS IS OF BULK AT MOST 1048576: true; the input reads as it did. -/
def fnExactIsWellNamedUptoRow : OpenClaim := { program := "ytpahhlcfbmmocab", sum := "56d06b0e62798fe617178e0547a6669c4ad78417cd470f964ed75717cc050ca8", func := "loop.example/g01175/laws.FnExactIsWellNamed", spec := "fnExactIsWellNamed", unfollowed := true, recurses := true, apart := false, narrowed := true }
def FnExactIsWellNamedUptoSaid : Prop := fnExactIsWellNamedUptoRow.holds Try.pinned (OpenSpec.upto fnExactIsWellNamedSpec)

/-- 'laws.FnExactIsGuarded', WHERE WHAT IT READS IS OF BULK AT MOST 1048576: true; the input reads as it did. -/
def fnExactIsGuardedUptoRow : OpenClaim := { program := "ytpahhlcfbmmocab", sum := "56d06b0e62798fe617178e0547a6669c4ad78417cd470f964ed75717cc050ca8", func := "loop.example/g01175/laws.FnExactIsGuarded", spec := "fnExactIsGuarded", unfollowed := true, recurses := true, apart := false, narrowed := true }
def FnExactIsGuardedUptoSaid : Prop := fnExactIsGuardedUptoRow.holds Try.pinned (OpenSpec.upto fnExactIsGuardedSpec)

/-- 'laws.FnExactIsFinite', WHERE WHAT IT READS IS OF BULK AT MOST 1048576: true; the input reads as it did. -/
def fnExactIsFiniteUptoRow : OpenClaim := { program := "ytpahhlcfbmmocab", sum := "56d06b0e62798fe617178e0547a6669c4ad78417cd470f964ed75717cc050ca8", func := "loop.example/g01175/laws.FnExactIsFinite", spec := "fnExactIsFinite", unfollowed := true, recurses := true, apart := false, narrowed := true }
def FnExactIsFiniteUptoSaid : Prop := fnExactIsFiniteUptoRow.holds Try.pinned (OpenSpec.upto fnExactIsFiniteSpec)

/-- 'laws.FnExactIsSimple', WHERE WHAT IT READS IS OF BULK AT MOST 1048576: true; the input reads as it did. -/
def fnExactIsSimpleUptoRow : OpenClaim := { program := "ytpahhlcfbmmocab", sum := "56d06b0e62798fe617178e0547a6669c4ad78417cd470f964ed75717cc050ca8", func := "loop.example/g01175/laws.FnExactIsSimple", spec := "fnExactIsSimple", unfollowed := true, recurses := true, apart := false, narrowed := true }
def FnExactIsSimpleUptoSaid : Prop := fnExactIsSimpleUptoRow.holds Try.pinned (OpenSpec.upto fnExactIsSimpleSpec)

end Rows
end Go.Proofs.Ytpahhlcfbmmocab
