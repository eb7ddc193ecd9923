/-
  DERIVED. GIVEN WITH THE SEED: THE CARDS: each row of YtiffkbmppmejhabGreatDoorRows.lean that lists a variable, with what it lists TIED to the program's text (the seventh form; the later family's looks); each row that meets fmt, with fmt's text TOLD by the authors' own Lean function (tested against real Go, not proved from fmt's source: count such statements apart). THE CARD IS WHAT COUNTS. Prove the row's statement (the work); the ties are given (YtiffkbmppmejhabGreatDoorTie.lean); close each card by the builder's one call (the guide's Derived/Test/ToyasCard.lean, 'card_holds'). Laid BY PROGRAM, IN A SANDBOX (cutbox-door.mjs). By AI agents, Wed Nov 11 2026. No macro, syntax, notation, axiom, sorry.
-/
import Derived.Test.YtiffkbmppmejhabGreatDoorRows
import GoSem.ClaimSeven
namespace Go.Proofs.YtiffkbmppmejhabGreatDoor
namespace Rows

/-- THE TIED CARD OF 'anvillaw11.AccessAll'. -/
def accessAllCard : Claim7 := { stood := { row := accessAllRow, standIns := [], harness := (true, "67362b854e1d896cc8c638aa274823973724cf81b372028441b6d0b4a1f81f57"), looks := false }, kinds := [], alts := [], laidByText := true, laidKinds := [.data], laidTests := true, laidLooks := .later }
def AccessAllCardSaid : Prop := Claim7.holds Tryz.pinned (.plain (OpenSpec.ofChange accessAllSpec)) accessAllCard

/-- THE SECOND FORM's CARD OF 'anvillaw11.AccessAll'. -/
def accessAllUptoCard : Claim7 := { stood := { row := accessAllUptoRow, standIns := [], harness := (true, "67362b854e1d896cc8c638aa274823973724cf81b372028441b6d0b4a1f81f57"), looks := false }, kinds := [], alts := [], laidByText := true, laidKinds := [.data], laidTests := true, laidLooks := .later }
def AccessAllUptoCardSaid : Prop := Claim7.holds Tryz.pinned (.plain (OpenSpec.upto accessAllSpec)) accessAllUptoCard
end Rows
end Go.Proofs.YtiffkbmppmejhabGreatDoor
