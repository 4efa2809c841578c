/-
  DERIVED. GIVEN WITH THE SEED: THE CARDS: each row of YtinkioodkgccjaaDoorRows.lean that lists a variable, with what it lists TIED to the program's text (the seventh form; the later family's looks); each row that meets fmt, with fmt's text TOLD by the authors' own Lean function (tested against real Go, not proved from fmt's source: count such statements apart). THE CARD IS WHAT COUNTS. Prove the row's statement (the work); the ties are given (YtinkioodkgccjaaDoorTie.lean); close each card by the builder's one call (the guide's Derived/Test/ToyasCard.lean, 'card_holds'). Laid BY PROGRAM, IN A SANDBOX (cutbox-door.mjs). By AI agents, Wed Nov 11 2026. No macro, syntax, notation, axiom, sorry.
-/
import Derived.Test.YtinkioodkgccjaaDoorRows
import GoSem.ClaimSeven
namespace Go.Proofs.YtinkioodkgccjaaDoor
namespace Rows

/-- THE TIED CARD OF 'laws.FnExactSendTuple'. -/
def fnExactSendTupleCard : Claim7 := { stood := { row := fnExactSendTupleRow, standIns := [], harness := (true, "bcc8b48b12f63c59987293847d5b9a193e97cb99063fedd26333e8edc2a7fdc2"), looks := true }, kinds := [], alts := [], laidByText := true, laidKinds := [.data, .pinned], laidTests := true, laidLooks := .later }
def FnExactSendTupleCardSaid : Prop := Claim7.holds Tryd.pinned (.plain (OpenSpec.ofChange fnExactSendTupleSpec)) fnExactSendTupleCard

/-- THE TIED CARD OF 'laws.FnExactReceiveTuple'. -/
def fnExactReceiveTupleCard : Claim7 := { stood := { row := fnExactReceiveTupleRow, standIns := [], harness := (true, "bcc8b48b12f63c59987293847d5b9a193e97cb99063fedd26333e8edc2a7fdc2"), looks := true }, kinds := [], alts := [], laidByText := true, laidKinds := [.data, .pinned], laidTests := true, laidLooks := .later }
def FnExactReceiveTupleCardSaid : Prop := Claim7.holds Tryd.pinned (.plain (OpenSpec.ofChange fnExactReceiveTupleSpec)) fnExactReceiveTupleCard

/-- THE SECOND FORM's CARD OF 'laws.FnExactSendTuple'. -/
def fnExactSendTupleUptoCard : Claim7 := { stood := { row := fnExactSendTupleUptoRow, standIns := [], harness := (true, "bcc8b48b12f63c59987293847d5b9a193e97cb99063fedd26333e8edc2a7fdc2"), looks := true }, kinds := [], alts := [], laidByText := true, laidKinds := [.data, .pinned], laidTests := true, laidLooks := .later }
def FnExactSendTupleUptoCardSaid : Prop := Claim7.holds Tryd.pinned (.plain (OpenSpec.upto fnExactSendTupleSpec)) fnExactSendTupleUptoCard

/-- THE SECOND FORM's CARD OF 'laws.FnExactReceiveTuple'. -/
def fnExactReceiveTupleUptoCard : Claim7 := { stood := { row := fnExactReceiveTupleUptoRow, standIns := [], harness := (true, "bcc8b48b12f63c59987293847d5b9a193e97cb99063fedd26333e8edc2a7fdc2"), looks := true }, kinds := [], alts := [], laidByText := true, laidKinds := [.data, .pinned], laidTests := true, laidLooks := .later }
def FnExactReceiveTupleUptoCardSaid : Prop := Claim7.holds Tryd.pinned (.plain (OpenSpec.upto fnExactReceiveTupleSpec)) fnExactReceiveTupleUptoCard
end Rows
end Go.Proofs.YtinkioodkgccjaaDoor
