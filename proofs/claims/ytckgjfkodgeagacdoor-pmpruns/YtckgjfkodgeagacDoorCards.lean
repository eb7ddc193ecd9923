/-
  DERIVED. GIVEN WITH THE SEED: THE CARDS: each row of YtckgjfkodgeagacDoorRows.lean that lists a variable, with what it lists TIED to the program's text (the seventh form; the later family's looks); each row that meets fmt, with fmt's text TOLD by the authors' own Lean function (tested against real Go, not proved from fmt's source: count such statements apart). THE CARD IS WHAT COUNTS. Prove the row's statement (the work); the ties are given (YtckgjfkodgeagacDoorTie.lean); close each card by the builder's one call (the guide's Derived/Test/ToyasCard.lean, 'card_holds'). Laid BY PROGRAM, IN A SANDBOX (cutbox-door.mjs). By AI agents, Wed Nov 11 2026. No macro, syntax, notation, axiom, sorry.
-/
import Derived.Test.YtckgjfkodgeagacDoorRows
import GoSem.ClaimSeven
namespace Go.Proofs.YtckgjfkodgeagacDoor
namespace Rows

/-- THE TIED CARD OF 'anvillaw04.PmpRuns'. -/
def pmpRunsCard : Claim7 := { stood := { row := pmpRunsRow, standIns := [], harness := (true, "d43da81f7881f6c8dafbfecf60bb4722ce67fd005adbe738d31c86918e43e903"), looks := false }, kinds := [], alts := [], laidByText := true, laidKinds := [.data], laidTests := true, laidLooks := .later }
def PmpRunsCardSaid : Prop := Claim7.holds Tryd.pinned (.plain (OpenSpec.ofChange pmpRunsSpec)) pmpRunsCard

/-- THE SECOND FORM's CARD OF 'anvillaw04.PmpRuns'. -/
def pmpRunsUptoCard : Claim7 := { stood := { row := pmpRunsUptoRow, standIns := [], harness := (true, "d43da81f7881f6c8dafbfecf60bb4722ce67fd005adbe738d31c86918e43e903"), looks := false }, kinds := [], alts := [], laidByText := true, laidKinds := [.data], laidTests := true, laidLooks := .later }
def PmpRunsUptoCardSaid : Prop := Claim7.holds Tryd.pinned (.plain (OpenSpec.upto pmpRunsSpec)) pmpRunsUptoCard
end Rows
end Go.Proofs.YtckgjfkodgeagacDoor
