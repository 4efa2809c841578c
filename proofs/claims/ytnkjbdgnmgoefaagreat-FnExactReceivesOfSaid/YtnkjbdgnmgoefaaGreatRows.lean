/-
  No cell of these rows narrows 'for every input' (looked for: loops, veiled, ifaces, maps, wideKeys, modest, calm, conditions, laid).
  DERIVED. THE GIVEN ROWS OF THIS SEAT. 7 by the template 'for every input the law returns true; each argument reads behind the call as it read before'; 0 by the template 'total and deterministic' (their statements: YtnkjbdgnmgoefaaGreatTotals.lean).
  GIVEN WITH THE SEED: the statements are not yours to turn. If you find one false, say at which input.
  Laid BY PROGRAM, IN A SANDBOX (cutbox-rows.mjs): the forced cells as the released guide's own fill.sh prints them over the translation d3e4082a9c34d4c7… (all of the seat's roots in one cut). By AI agents, Wed Nov 11 2026. No macro, syntax, notation, axiom, sorry.
-/
import Derived.Test.YtnkjbdgnmgoefaaGreatChecked
import GoSem.Claim
import GoSem.ClaimJoined
import GoSem.ClaimMapViews
import Derived.JoinedTies
import Derived.KernelRfl
namespace Go.Proofs.YtnkjbdgnmgoefaaGreat
/- THE CELL 'sum', in the pinned program and in every row, IS THE sha256 OF THE DUMP (.gsa) THAT YtnkjbdgnmgoefaaGreatProg.lean LOADS. Nothing in Lean hashes anything: it is a label: what it is worth is what the hold of that sum in a sandbox is worth. -/
noncomputable def Tryz.pinned : Pinned := { name := "ytnkjbdgnmgoefaagreat", sum := "d3e4082a9c34d4c72c5bcae0b5d3ca11c8b00d29f1964e1c256ec9871a834e77", checked := Tryz.checked }
namespace Rows
def none {H : Type} : Left H := { results := [], args := [] }

/-- 'laws.FnExactComponentsOf': WHATEVER THE INPUT: true; the input reads as it did. -/
def fnExactComponentsOfSpec : ChangeSpec := { name := "fnExactComponentsOf", fn := fun _ => fun
  | [d] => { results := [.lit (.bool true)], args := [d] }
  | _ => none }
def fnExactComponentsOfRow : OpenClaim := { program := "ytnkjbdgnmgoefaagreat", sum := "d3e4082a9c34d4c72c5bcae0b5d3ca11c8b00d29f1964e1c256ec9871a834e77", func := "loop.example/g01175/laws.FnExactComponentsOf", spec := "fnExactComponentsOf", unfollowed := true, recurses := true, plainKeys := false, apart := false }
def FnExactComponentsOfSaid : Prop := fnExactComponentsOfRow.holds Tryz.pinned (OpenSpec.ofChange fnExactComponentsOfSpec)

/-- ITS FALSE NEIGHBOUR: 'it returns false'. Refute it at one input. -/
def fnExactComponentsOfWrong : ChangeSpec := { name := "fnExactComponentsOf", fn := fun _ => fun
  | [d] => { results := [.lit (.bool false)], args := [d] }
  | _ => none }
def FnExactComponentsOfWrongFalsely : Prop := fnExactComponentsOfRow.holds Tryz.pinned (OpenSpec.ofChange fnExactComponentsOfWrong)

/-- 'laws.FnExactSendsOf': WHATEVER THE INPUT: true; the input reads as it did. -/
def fnExactSendsOfSpec : ChangeSpec := { name := "fnExactSendsOf", fn := fun _ => fun
  | [d] => { results := [.lit (.bool true)], args := [d] }
  | _ => none }
def fnExactSendsOfRow : OpenClaim := { program := "ytnkjbdgnmgoefaagreat", sum := "d3e4082a9c34d4c72c5bcae0b5d3ca11c8b00d29f1964e1c256ec9871a834e77", func := "loop.example/g01175/laws.FnExactSendsOf", spec := "fnExactSendsOf", unfollowed := true, recurses := true, plainKeys := false, apart := false }
def FnExactSendsOfSaid : Prop := fnExactSendsOfRow.holds Tryz.pinned (OpenSpec.ofChange fnExactSendsOfSpec)

/-- ITS FALSE NEIGHBOUR: 'it returns false'. Refute it at one input. -/
def fnExactSendsOfWrong : ChangeSpec := { name := "fnExactSendsOf", fn := fun _ => fun
  | [d] => { results := [.lit (.bool false)], args := [d] }
  | _ => none }
def FnExactSendsOfWrongFalsely : Prop := fnExactSendsOfRow.holds Tryz.pinned (OpenSpec.ofChange fnExactSendsOfWrong)

/-- 'laws.FnExactReceivesOf': WHATEVER THE INPUT: true; the input reads as it did. -/
def fnExactReceivesOfSpec : ChangeSpec := { name := "fnExactReceivesOf", fn := fun _ => fun
  | [d] => { results := [.lit (.bool true)], args := [d] }
  | _ => none }
def fnExactReceivesOfRow : OpenClaim := { program := "ytnkjbdgnmgoefaagreat", sum := "d3e4082a9c34d4c72c5bcae0b5d3ca11c8b00d29f1964e1c256ec9871a834e77", func := "loop.example/g01175/laws.FnExactReceivesOf", spec := "fnExactReceivesOf", unfollowed := true, recurses := true, plainKeys := false, apart := false }
def FnExactReceivesOfSaid : Prop := fnExactReceivesOfRow.holds Tryz.pinned (OpenSpec.ofChange fnExactReceivesOfSpec)

/-- ITS FALSE NEIGHBOUR: 'it returns false'. Refute it at one input. -/
def fnExactReceivesOfWrong : ChangeSpec := { name := "fnExactReceivesOf", fn := fun _ => fun
  | [d] => { results := [.lit (.bool false)], args := [d] }
  | _ => none }
def FnExactReceivesOfWrongFalsely : Prop := fnExactReceivesOfRow.holds Tryz.pinned (OpenSpec.ofChange fnExactReceivesOfWrong)

/-- 'laws.FnExactReductionsOf': WHATEVER THE INPUT: true; the input reads as it did. -/
def fnExactReductionsOfSpec : ChangeSpec := { name := "fnExactReductionsOf", fn := fun _ => fun
  | [d] => { results := [.lit (.bool true)], args := [d] }
  | _ => none }
def fnExactReductionsOfRow : OpenClaim := { program := "ytnkjbdgnmgoefaagreat", sum := "d3e4082a9c34d4c72c5bcae0b5d3ca11c8b00d29f1964e1c256ec9871a834e77", func := "loop.example/g01175/laws.FnExactReductionsOf", spec := "fnExactReductionsOf", unfollowed := true, recurses := true, plainKeys := false, apart := false }
def FnExactReductionsOfSaid : Prop := fnExactReductionsOfRow.holds Tryz.pinned (OpenSpec.ofChange fnExactReductionsOfSpec)

/-- ITS FALSE NEIGHBOUR: 'it returns false'. Refute it at one input. -/
def fnExactReductionsOfWrong : ChangeSpec := { name := "fnExactReductionsOf", fn := fun _ => fun
  | [d] => { results := [.lit (.bool false)], args := [d] }
  | _ => none }
def FnExactReductionsOfWrongFalsely : Prop := fnExactReductionsOfRow.holds Tryz.pinned (OpenSpec.ofChange fnExactReductionsOfWrong)

/-- 'laws.FnExactCountReductions': WHATEVER THE INPUT: true; the input reads as it did. -/
def fnExactCountReductionsSpec : ChangeSpec := { name := "fnExactCountReductions", fn := fun _ => fun
  | [d] => { results := [.lit (.bool true)], args := [d] }
  | _ => none }
def fnExactCountReductionsRow : OpenClaim := { program := "ytnkjbdgnmgoefaagreat", sum := "d3e4082a9c34d4c72c5bcae0b5d3ca11c8b00d29f1964e1c256ec9871a834e77", func := "loop.example/g01175/laws.FnExactCountReductions", spec := "fnExactCountReductions", unfollowed := true, recurses := true, plainKeys := false, apart := false }
def FnExactCountReductionsSaid : Prop := fnExactCountReductionsRow.holds Tryz.pinned (OpenSpec.ofChange fnExactCountReductionsSpec)

/-- ITS FALSE NEIGHBOUR: 'it returns false'. Refute it at one input. -/
def fnExactCountReductionsWrong : ChangeSpec := { name := "fnExactCountReductions", fn := fun _ => fun
  | [d] => { results := [.lit (.bool false)], args := [d] }
  | _ => none }
def FnExactCountReductionsWrongFalsely : Prop := fnExactCountReductionsRow.holds Tryz.pinned (OpenSpec.ofChange fnExactCountReductionsWrong)

/-- 'laws.FnExactIsStuck': WHATEVER THE INPUT: true; the input reads as it did. -/
def fnExactIsStuckSpec : ChangeSpec := { name := "fnExactIsStuck", fn := fun _ => fun
  | [d] => { results := [.lit (.bool true)], args := [d] }
  | _ => none }
def fnExactIsStuckRow : OpenClaim := { program := "ytnkjbdgnmgoefaagreat", sum := "d3e4082a9c34d4c72c5bcae0b5d3ca11c8b00d29f1964e1c256ec9871a834e77", func := "loop.example/g01175/laws.FnExactIsStuck", spec := "fnExactIsStuck", unfollowed := true, recurses := true, plainKeys := false, apart := false }
def FnExactIsStuckSaid : Prop := fnExactIsStuckRow.holds Tryz.pinned (OpenSpec.ofChange fnExactIsStuckSpec)

/-- ITS FALSE NEIGHBOUR: 'it returns false'. Refute it at one input. -/
def fnExactIsStuckWrong : ChangeSpec := { name := "fnExactIsStuck", fn := fun _ => fun
  | [d] => { results := [.lit (.bool false)], args := [d] }
  | _ => none }
def FnExactIsStuckWrongFalsely : Prop := fnExactIsStuckRow.holds Tryz.pinned (OpenSpec.ofChange fnExactIsStuckWrong)

/-- 'laws.FnExactRunBy': WHATEVER THE INPUT: true; the input reads as it did. -/
def fnExactRunBySpec : ChangeSpec := { name := "fnExactRunBy", fn := fun _ => fun
  | [d1, d2] => { results := [.lit (.bool true)], args := [d1, d2] }
  | _ => none }
def fnExactRunByRow : OpenClaim := { program := "ytnkjbdgnmgoefaagreat", sum := "d3e4082a9c34d4c72c5bcae0b5d3ca11c8b00d29f1964e1c256ec9871a834e77", func := "loop.example/g01175/laws.FnExactRunBy", spec := "fnExactRunBy", unfollowed := true, recurses := true, plainKeys := false, apart := false }
def FnExactRunBySaid : Prop := fnExactRunByRow.holds Tryz.pinned (OpenSpec.ofChange fnExactRunBySpec)

/-- ITS FALSE NEIGHBOUR: 'it returns false'. Refute it at one input. -/
def fnExactRunByWrong : ChangeSpec := { name := "fnExactRunBy", fn := fun _ => fun
  | [d1, d2] => { results := [.lit (.bool false)], args := [d1, d2] }
  | _ => none }
def FnExactRunByWrongFalsely : Prop := fnExactRunByRow.holds Tryz.pinned (OpenSpec.ofChange fnExactRunByWrong)

/- THE SECOND FORM. 'bulk': how many values and letters a reading holds, each counted each time it is reached (what is shared counts as often as it is met; a slice's spare places count too). A statement '..UptoSaid' is the law's where the arguments, and the package variables that the reading takes, are together of bulk at most 1048576: NARROWER than '..Said'. Prove '..Said' where nothing that the law and all that it calls make is longer than what came in: it says more and counts as full. Else prove '..UptoSaid'. A law counts once. -/
mutual
def uptoBulk {H : Type} : DataW H → Nat
  | .lit (.string bytes) => bytes.length + 1
  | .lit _ => 1
  | .nil => 1
  | .ptr d => uptoBulk d + 1
  | .slice elems spare => uptoBulkAll elems + uptoBulkAll spare + 1
  | .agg parts => uptoBulkAll parts + 1
  | .iface _ d => uptoBulk d + 1
  | .map entries => uptoBulkEntries entries + 1
  | .held _ => 1
def uptoBulkAll {H : Type} : List (DataW H) → Nat
  | [] => 0
  | d :: r => uptoBulk d + uptoBulkAll r
def uptoBulkEntries {H : Type} : List (Lit × DataW H) → Nat
  | [] => 0
  | x :: r => uptoBulkEntry x + uptoBulkEntries r
def uptoBulkEntry {H : Type} : Lit × DataW H → Nat
  | (.string bytes, d) => bytes.length + uptoBulk d + 1
  | (_, d) => uptoBulk d + 1
 end
def uptoSmall : (H : Type) → List (DataW H) → Bool := fun _ ds => decide (uptoBulkAll ds ≤ 1048576)
def OpenSpec.upto (s : _root_.Go.ChangeSpec) : _root_.Go.OpenSpec := { _root_.Go.OpenSpec.ofChange s with cond := some uptoSmall }

/-- 'laws.FnExactComponentsOf', WHERE WHAT IT READS IS OF BULK AT MOST 1048576: true; the input reads as it did. -/
def fnExactComponentsOfUptoRow : OpenClaim := { program := "ytnkjbdgnmgoefaagreat", sum := "d3e4082a9c34d4c72c5bcae0b5d3ca11c8b00d29f1964e1c256ec9871a834e77", func := "loop.example/g01175/laws.FnExactComponentsOf", spec := "fnExactComponentsOf", unfollowed := true, recurses := true, plainKeys := false, apart := false, narrowed := true }
def FnExactComponentsOfUptoSaid : Prop := fnExactComponentsOfUptoRow.holds Tryz.pinned (OpenSpec.upto fnExactComponentsOfSpec)

/-- 'laws.FnExactSendsOf', WHERE WHAT IT READS IS OF BULK AT MOST 1048576: true; the input reads as it did. -/
def fnExactSendsOfUptoRow : OpenClaim := { program := "ytnkjbdgnmgoefaagreat", sum := "d3e4082a9c34d4c72c5bcae0b5d3ca11c8b00d29f1964e1c256ec9871a834e77", func := "loop.example/g01175/laws.FnExactSendsOf", spec := "fnExactSendsOf", unfollowed := true, recurses := true, plainKeys := false, apart := false, narrowed := true }
def FnExactSendsOfUptoSaid : Prop := fnExactSendsOfUptoRow.holds Tryz.pinned (OpenSpec.upto fnExactSendsOfSpec)

/-- 'laws.FnExactReceivesOf', WHERE WHAT IT READS IS OF BULK AT MOST 1048576: true; the input reads as it did. -/
def fnExactReceivesOfUptoRow : OpenClaim := { program := "ytnkjbdgnmgoefaagreat", sum := "d3e4082a9c34d4c72c5bcae0b5d3ca11c8b00d29f1964e1c256ec9871a834e77", func := "loop.example/g01175/laws.FnExactReceivesOf", spec := "fnExactReceivesOf", unfollowed := true, recurses := true, plainKeys := false, apart := false, narrowed := true }
def FnExactReceivesOfUptoSaid : Prop := fnExactReceivesOfUptoRow.holds Tryz.pinned (OpenSpec.upto fnExactReceivesOfSpec)

/-- 'laws.FnExactReductionsOf', WHERE WHAT IT READS IS OF BULK AT MOST 1048576: true; the input reads as it did. -/
def fnExactReductionsOfUptoRow : OpenClaim := { program := "ytnkjbdgnmgoefaagreat", sum := "d3e4082a9c34d4c72c5bcae0b5d3ca11c8b00d29f1964e1c256ec9871a834e77", func := "loop.example/g01175/laws.FnExactReductionsOf", spec := "fnExactReductionsOf", unfollowed := true, recurses := true, plainKeys := false, apart := false, narrowed := true }
def FnExactReductionsOfUptoSaid : Prop := fnExactReductionsOfUptoRow.holds Tryz.pinned (OpenSpec.upto fnExactReductionsOfSpec)

/-- 'laws.FnExactCountReductions', WHERE WHAT IT READS IS OF BULK AT MOST 1048576: true; the input reads as it did. -/
def fnExactCountReductionsUptoRow : OpenClaim := { program := "ytnkjbdgnmgoefaagreat", sum := "d3e4082a9c34d4c72c5bcae0b5d3ca11c8b00d29f1964e1c256ec9871a834e77", func := "loop.example/g01175/laws.FnExactCountReductions", spec := "fnExactCountReductions", unfollowed := true, recurses := true, plainKeys := false, apart := false, narrowed := true }
def FnExactCountReductionsUptoSaid : Prop := fnExactCountReductionsUptoRow.holds Tryz.pinned (OpenSpec.upto fnExactCountReductionsSpec)

/-- 'laws.FnExactIsStuck', WHERE WHAT IT READS IS OF BULK AT MOST 1048576: true; the input reads as it did. -/
def fnExactIsStuckUptoRow : OpenClaim := { program := "ytnkjbdgnmgoefaagreat", sum := "d3e4082a9c34d4c72c5bcae0b5d3ca11c8b00d29f1964e1c256ec9871a834e77", func := "loop.example/g01175/laws.FnExactIsStuck", spec := "fnExactIsStuck", unfollowed := true, recurses := true, plainKeys := false, apart := false, narrowed := true }
def FnExactIsStuckUptoSaid : Prop := fnExactIsStuckUptoRow.holds Tryz.pinned (OpenSpec.upto fnExactIsStuckSpec)

/-- 'laws.FnExactRunBy', WHERE WHAT IT READS IS OF BULK AT MOST 1048576: true; the input reads as it did. -/
def fnExactRunByUptoRow : OpenClaim := { program := "ytnkjbdgnmgoefaagreat", sum := "d3e4082a9c34d4c72c5bcae0b5d3ca11c8b00d29f1964e1c256ec9871a834e77", func := "loop.example/g01175/laws.FnExactRunBy", spec := "fnExactRunBy", unfollowed := true, recurses := true, plainKeys := false, apart := false, narrowed := true }
def FnExactRunByUptoSaid : Prop := fnExactRunByUptoRow.holds Tryz.pinned (OpenSpec.upto fnExactRunBySpec)

end Rows
end Go.Proofs.YtnkjbdgnmgoefaaGreat
