/-
  DERIVED. GIVEN WITH THE SEED: THE CARDS: each row of YtidfndgedopghaaGreatDoorRows.lean that lists a variable, with what it lists TIED to the program's text (the seventh form; the later family's looks); each row that meets fmt, with fmt's text TOLD by the authors' own Lean function (tested against real Go, not proved from fmt's source: count such statements apart). THE CARD IS WHAT COUNTS. Prove the row's statement (the work); the ties are given (YtidfndgedopghaaGreatDoorTie.lean); close each card by the builder's one call (the guide's Derived/Test/ToyasCard.lean, 'card_holds'). Laid BY PROGRAM, IN A SANDBOX (cutbox-door.mjs). By AI agents, Wed Nov 11 2026. No macro, syntax, notation, axiom, sorry.
-/
import Derived.Test.YtidfndgedopghaaGreatDoorRows
import GoSem.ClaimSeven
namespace Go.Proofs.YtidfndgedopghaaGreatDoor
namespace Rows

/-- THE TIED CARD OF 'anvillaw18.WatchTraces'. -/
def watchTracesCard : Claim7 := { stood := { row := watchTracesRow, standIns := [], harness := (true, "6c97a897f856984c79fcbbc7bd30a737fcb89ab40fbe2a94522dec66bdff8b4c"), looks := false }, kinds := [], alts := [], laidByText := true, laidKinds := [.data], laidTests := true, laidLooks := .later }
def WatchTracesCardSaid : Prop := Claim7.holds Tryz.pinned (.plain (OpenSpec.ofChange watchTracesSpec)) watchTracesCard

/-- THE TIED CARD OF 'anvillaw18.WatchAgrees'. -/
def watchAgreesCard : Claim7 := { stood := { row := watchAgreesRow, standIns := [], harness := (true, "6c97a897f856984c79fcbbc7bd30a737fcb89ab40fbe2a94522dec66bdff8b4c"), looks := false }, kinds := [], alts := [], laidByText := true, laidKinds := [.data], laidTests := true, laidLooks := .later }
def WatchAgreesCardSaid : Prop := Claim7.holds Tryz.pinned (.plain (OpenSpec.ofChange watchAgreesSpec)) watchAgreesCard

/-- THE TIED CARD OF 'anvillaw18.WatchSteps'. -/
def watchStepsCard : Claim7 := { stood := { row := watchStepsRow, standIns := [], harness := (true, "6c97a897f856984c79fcbbc7bd30a737fcb89ab40fbe2a94522dec66bdff8b4c"), looks := false }, kinds := [], alts := [], laidByText := true, laidKinds := [.data], laidTests := true, laidLooks := .later }
def WatchStepsCardSaid : Prop := Claim7.holds Tryz.pinned (.plain (OpenSpec.ofChange watchStepsSpec)) watchStepsCard

/-- THE SECOND FORM's CARD OF 'anvillaw18.WatchTraces'. -/
def watchTracesUptoCard : Claim7 := { stood := { row := watchTracesUptoRow, standIns := [], harness := (true, "6c97a897f856984c79fcbbc7bd30a737fcb89ab40fbe2a94522dec66bdff8b4c"), looks := false }, kinds := [], alts := [], laidByText := true, laidKinds := [.data], laidTests := true, laidLooks := .later }
def WatchTracesUptoCardSaid : Prop := Claim7.holds Tryz.pinned (.plain (OpenSpec.upto watchTracesSpec)) watchTracesUptoCard

/-- THE SECOND FORM's CARD OF 'anvillaw18.WatchAgrees'. -/
def watchAgreesUptoCard : Claim7 := { stood := { row := watchAgreesUptoRow, standIns := [], harness := (true, "6c97a897f856984c79fcbbc7bd30a737fcb89ab40fbe2a94522dec66bdff8b4c"), looks := false }, kinds := [], alts := [], laidByText := true, laidKinds := [.data], laidTests := true, laidLooks := .later }
def WatchAgreesUptoCardSaid : Prop := Claim7.holds Tryz.pinned (.plain (OpenSpec.upto watchAgreesSpec)) watchAgreesUptoCard

/-- THE SECOND FORM's CARD OF 'anvillaw18.WatchSteps'. -/
def watchStepsUptoCard : Claim7 := { stood := { row := watchStepsUptoRow, standIns := [], harness := (true, "6c97a897f856984c79fcbbc7bd30a737fcb89ab40fbe2a94522dec66bdff8b4c"), looks := false }, kinds := [], alts := [], laidByText := true, laidKinds := [.data], laidTests := true, laidLooks := .later }
def WatchStepsUptoCardSaid : Prop := Claim7.holds Tryz.pinned (.plain (OpenSpec.upto watchStepsSpec)) watchStepsUptoCard
end Rows
end Go.Proofs.YtidfndgedopghaaGreatDoor
