/-
  DERIVED. GIVEN WITH THE SEED: THE CARDS: each row of YtopddflnahfomaaGreatDoorRows.lean that lists a variable, with what it lists TIED to the program's text (the seventh form; the later family's looks); each row that meets fmt, with fmt's text TOLD by the authors' own Lean function (tested against real Go, not proved from fmt's source: count such statements apart). THE CARD IS WHAT COUNTS. Prove the row's statement (the work); the ties are given (YtopddflnahfomaaGreatDoorTie.lean); close each card by the builder's one call (the guide's Derived/Test/ToyasCard.lean, 'card_holds'). Laid BY PROGRAM, IN A SANDBOX (cutbox-door.mjs). By AI agents, Wed Nov 11 2026. No macro, syntax, notation, axiom, sorry.
-/
import Derived.Test.YtopddflnahfomaaGreatDoorRows
import GoSem.ClaimSeven
namespace Go.Proofs.YtopddflnahfomaaGreatDoor
namespace Rows

/-- THE TIED CARD OF 'anvillaw02.ImageOwn'. -/
def imageOwnCard : Claim7 := { stood := { row := imageOwnRow, standIns := [], harness := (true, "08eea4fd66b96e986f58c42a80d930066a1f25ace3c46ae3fab2cf74f9d8d64b"), looks := true }, kinds := [], alts := [], laidByText := true, laidKinds := [.data, .handle, .data, .pinned, .pinned], laidTests := true, laidLooks := .later }
def ImageOwnCardSaid : Prop := Claim7.holds Tryz.pinned (.plain (OpenSpec.ofChange imageOwnSpec)) imageOwnCard

/-- THE SECOND FORM's CARD OF 'anvillaw02.ImageOwn'. -/
def imageOwnUptoCard : Claim7 := { stood := { row := imageOwnUptoRow, standIns := [], harness := (true, "08eea4fd66b96e986f58c42a80d930066a1f25ace3c46ae3fab2cf74f9d8d64b"), looks := true }, kinds := [], alts := [], laidByText := true, laidKinds := [.data, .handle, .data, .pinned, .pinned], laidTests := true, laidLooks := .later }
def ImageOwnUptoCardSaid : Prop := Claim7.holds Tryz.pinned (.plain (OpenSpec.upto imageOwnSpec)) imageOwnUptoCard
end Rows
end Go.Proofs.YtopddflnahfomaaGreatDoor
