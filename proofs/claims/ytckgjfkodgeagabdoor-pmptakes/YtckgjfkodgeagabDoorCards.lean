/-
  DERIVED. GIVEN WITH THE SEED: THE CARDS: each row of YtckgjfkodgeagabDoorRows.lean that lists a variable, with what it lists TIED to the program's text (the seventh form; the later family's looks); each row that meets fmt, with fmt's text TOLD by the authors' own Lean function (tested against real Go, not proved from fmt's source: count such statements apart). THE CARD IS WHAT COUNTS. Prove the row's statement (the work); the ties are given (YtckgjfkodgeagabDoorTie.lean); close each card by the builder's one call (the guide's Derived/Test/ToyasCard.lean, 'card_holds'). Laid BY PROGRAM, IN A SANDBOX (cutbox-door.mjs). By AI agents, Wed Nov 11 2026. No macro, syntax, notation, axiom, sorry.
-/
import Derived.Test.YtckgjfkodgeagabDoorRows
import GoSem.ClaimSeven
namespace Go.Proofs.YtckgjfkodgeagabDoor
namespace Rows

/-- THE TIED CARD OF 'anvillaw04.PmpTakes'. -/
def pmpTakesCard : Claim7 := { stood := { row := pmpTakesRow, standIns := [], harness := (true, "1c4384b49c5e3182a4a4b6f33867ae6d37786a646ecd3ed390c16602ca81cfd3"), looks := false }, kinds := [], alts := [], laidByText := true, laidKinds := [.data], laidTests := true, laidLooks := .later }
def PmpTakesCardSaid : Prop := Claim7.holds Tryd.pinned (.plain (OpenSpec.ofChange pmpTakesSpec)) pmpTakesCard

/-- THE TIED CARD OF 'anvillaw04.PmpFirst'. -/
def pmpFirstCard : Claim7 := { stood := { row := pmpFirstRow, standIns := [], harness := (true, "1c4384b49c5e3182a4a4b6f33867ae6d37786a646ecd3ed390c16602ca81cfd3"), looks := false }, kinds := [], alts := [], laidByText := true, laidKinds := [.data], laidTests := true, laidLooks := .later }
def PmpFirstCardSaid : Prop := Claim7.holds Tryd.pinned (.plain (OpenSpec.ofChange pmpFirstSpec)) pmpFirstCard

/-- THE TIED CARD OF 'anvillaw04.PmpBytes'. -/
def pmpBytesCard : Claim7 := { stood := { row := pmpBytesRow, standIns := [], harness := (true, "1c4384b49c5e3182a4a4b6f33867ae6d37786a646ecd3ed390c16602ca81cfd3"), looks := false }, kinds := [], alts := [], laidByText := true, laidKinds := [.data], laidTests := true, laidLooks := .later }
def PmpBytesCardSaid : Prop := Claim7.holds Tryd.pinned (.plain (OpenSpec.ofChange pmpBytesSpec)) pmpBytesCard

/-- THE TIED CARD OF 'anvillaw04.PmpShapes'. -/
def pmpShapesCard : Claim7 := { stood := { row := pmpShapesRow, standIns := [], harness := (true, "1c4384b49c5e3182a4a4b6f33867ae6d37786a646ecd3ed390c16602ca81cfd3"), looks := false }, kinds := [], alts := [], laidByText := true, laidKinds := [.data], laidTests := true, laidLooks := .later }
def PmpShapesCardSaid : Prop := Claim7.holds Tryd.pinned (.plain (OpenSpec.ofChange pmpShapesSpec)) pmpShapesCard

/-- THE TIED CARD OF 'anvillaw04.PmpChecks'. -/
def pmpChecksCard : Claim7 := { stood := { row := pmpChecksRow, standIns := [], harness := (true, "1c4384b49c5e3182a4a4b6f33867ae6d37786a646ecd3ed390c16602ca81cfd3"), looks := false }, kinds := [], alts := [], laidByText := true, laidKinds := [.data], laidTests := true, laidLooks := .later }
def PmpChecksCardSaid : Prop := Claim7.holds Tryd.pinned (.plain (OpenSpec.ofChange pmpChecksSpec)) pmpChecksCard

/-- THE SECOND FORM's CARD OF 'anvillaw04.PmpTakes'. -/
def pmpTakesUptoCard : Claim7 := { stood := { row := pmpTakesUptoRow, standIns := [], harness := (true, "1c4384b49c5e3182a4a4b6f33867ae6d37786a646ecd3ed390c16602ca81cfd3"), looks := false }, kinds := [], alts := [], laidByText := true, laidKinds := [.data], laidTests := true, laidLooks := .later }
def PmpTakesUptoCardSaid : Prop := Claim7.holds Tryd.pinned (.plain (OpenSpec.upto pmpTakesSpec)) pmpTakesUptoCard

/-- THE SECOND FORM's CARD OF 'anvillaw04.PmpFirst'. -/
def pmpFirstUptoCard : Claim7 := { stood := { row := pmpFirstUptoRow, standIns := [], harness := (true, "1c4384b49c5e3182a4a4b6f33867ae6d37786a646ecd3ed390c16602ca81cfd3"), looks := false }, kinds := [], alts := [], laidByText := true, laidKinds := [.data], laidTests := true, laidLooks := .later }
def PmpFirstUptoCardSaid : Prop := Claim7.holds Tryd.pinned (.plain (OpenSpec.upto pmpFirstSpec)) pmpFirstUptoCard

/-- THE SECOND FORM's CARD OF 'anvillaw04.PmpBytes'. -/
def pmpBytesUptoCard : Claim7 := { stood := { row := pmpBytesUptoRow, standIns := [], harness := (true, "1c4384b49c5e3182a4a4b6f33867ae6d37786a646ecd3ed390c16602ca81cfd3"), looks := false }, kinds := [], alts := [], laidByText := true, laidKinds := [.data], laidTests := true, laidLooks := .later }
def PmpBytesUptoCardSaid : Prop := Claim7.holds Tryd.pinned (.plain (OpenSpec.upto pmpBytesSpec)) pmpBytesUptoCard

/-- THE SECOND FORM's CARD OF 'anvillaw04.PmpShapes'. -/
def pmpShapesUptoCard : Claim7 := { stood := { row := pmpShapesUptoRow, standIns := [], harness := (true, "1c4384b49c5e3182a4a4b6f33867ae6d37786a646ecd3ed390c16602ca81cfd3"), looks := false }, kinds := [], alts := [], laidByText := true, laidKinds := [.data], laidTests := true, laidLooks := .later }
def PmpShapesUptoCardSaid : Prop := Claim7.holds Tryd.pinned (.plain (OpenSpec.upto pmpShapesSpec)) pmpShapesUptoCard

/-- THE SECOND FORM's CARD OF 'anvillaw04.PmpChecks'. -/
def pmpChecksUptoCard : Claim7 := { stood := { row := pmpChecksUptoRow, standIns := [], harness := (true, "1c4384b49c5e3182a4a4b6f33867ae6d37786a646ecd3ed390c16602ca81cfd3"), looks := false }, kinds := [], alts := [], laidByText := true, laidKinds := [.data], laidTests := true, laidLooks := .later }
def PmpChecksUptoCardSaid : Prop := Claim7.holds Tryd.pinned (.plain (OpenSpec.upto pmpChecksSpec)) pmpChecksUptoCard
end Rows
end Go.Proofs.YtckgjfkodgeagabDoor
