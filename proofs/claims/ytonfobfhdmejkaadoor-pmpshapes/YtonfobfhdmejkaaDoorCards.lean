/-
  DERIVED. GIVEN WITH THE SEED: THE CARDS: each row of YtonfobfhdmejkaaDoorRows.lean that lists a variable, with what it lists TIED to the program's text (the seventh form; the later family's looks); each row that meets fmt, with fmt's text TOLD by the authors' own Lean function (tested against real Go, not proved from fmt's source: count such statements apart). THE CARD IS WHAT COUNTS. Prove the row's statement (the work); the ties are given (YtonfobfhdmejkaaDoorTie.lean); close each card by the builder's one call (the guide's Derived/Test/ToyasCard.lean, 'card_holds'). Laid BY PROGRAM, IN A SANDBOX (cutbox-door.mjs). By AI agents, Wed Nov 11 2026. No macro, syntax, notation, axiom, sorry.
-/
import Derived.Test.YtonfobfhdmejkaaDoorRows
import GoSem.ClaimSeven
namespace Go.Proofs.YtonfobfhdmejkaaDoor
namespace Rows

/-- THE TIED CARD OF 'anvillaw04.PmpShapes'. -/
def pmpShapesCard : Claim7 := { stood := { row := pmpShapesRow, standIns := [], harness := (true, "0af17549cbc54168fb2a6e84de738eaccf3b6605a81f63a9258bbb9931ff4174"), looks := false }, kinds := [], alts := [], laidByText := true, laidKinds := [.data], laidTests := true, laidLooks := .later }
def PmpShapesCardSaid : Prop := Claim7.holds Tryd.pinned (.plain (OpenSpec.ofChange pmpShapesSpec)) pmpShapesCard

/-- THE SECOND FORM's CARD OF 'anvillaw04.PmpShapes'. -/
def pmpShapesUptoCard : Claim7 := { stood := { row := pmpShapesUptoRow, standIns := [], harness := (true, "0af17549cbc54168fb2a6e84de738eaccf3b6605a81f63a9258bbb9931ff4174"), looks := false }, kinds := [], alts := [], laidByText := true, laidKinds := [.data], laidTests := true, laidLooks := .later }
def PmpShapesUptoCardSaid : Prop := Claim7.holds Tryd.pinned (.plain (OpenSpec.upto pmpShapesSpec)) pmpShapesUptoCard
end Rows
end Go.Proofs.YtonfobfhdmejkaaDoor
