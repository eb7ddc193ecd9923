/-
  DERIVED. GIVEN WITH THE SEED: THE CARDS: each row of YtlhgphokfpnfeaaGreatDoorRows.lean that lists a variable, with what it lists TIED to the program's text (the seventh form; the later family's looks); each row that meets fmt, with fmt's text TOLD by the authors' own Lean function (tested against real Go, not proved from fmt's source: count such statements apart). THE CARD IS WHAT COUNTS. Prove the row's statement (the work); the ties are given (YtlhgphokfpnfeaaGreatDoorTie.lean); close each card by the builder's one call (the guide's Derived/Test/ToyasCard.lean, 'card_holds'). Laid BY PROGRAM, IN A SANDBOX (cutbox-door.mjs). By AI agents, Wed Nov 11 2026. No macro, syntax, notation, axiom, sorry.
-/
import Derived.Test.YtlhgphokfpnfeaaGreatDoorRows
import GoSem.ClaimSeven
namespace Go.Proofs.YtlhgphokfpnfeaaGreatDoor
namespace Rows

/-- THE TIED CARD OF 'anvillaw11.AccessOrder'. -/
def accessOrderCard : Claim7 := { stood := { row := accessOrderRow, standIns := [], harness := (true, "d2c23cbd40383840e51a9ec8bdfaba400bdd3d313340536b3a39dd24b73cb12a"), looks := false }, kinds := [], alts := [], laidByText := true, laidKinds := [.data], laidTests := true, laidLooks := .later }
def AccessOrderCardSaid : Prop := Claim7.holds Tryz.pinned (.plain (OpenSpec.ofChange accessOrderSpec)) accessOrderCard

/-- THE TIED CARD OF 'anvillaw11.AccessPrecise'. -/
def accessPreciseCard : Claim7 := { stood := { row := accessPreciseRow, standIns := [], harness := (true, "d2c23cbd40383840e51a9ec8bdfaba400bdd3d313340536b3a39dd24b73cb12a"), looks := false }, kinds := [], alts := [], laidByText := true, laidKinds := [.data], laidTests := true, laidLooks := .later }
def AccessPreciseCardSaid : Prop := Claim7.holds Tryz.pinned (.plain (OpenSpec.ofChange accessPreciseSpec)) accessPreciseCard

/-- THE TIED CARD OF 'anvillaw11.AccessAsU'. -/
def accessAsUCard : Claim7 := { stood := { row := accessAsURow, standIns := [], harness := (true, "d2c23cbd40383840e51a9ec8bdfaba400bdd3d313340536b3a39dd24b73cb12a"), looks := false }, kinds := [], alts := [], laidByText := true, laidKinds := [.data], laidTests := true, laidLooks := .later }
def AccessAsUCardSaid : Prop := Claim7.holds Tryz.pinned (.plain (OpenSpec.ofChange accessAsUSpec)) accessAsUCard

/-- THE TIED CARD OF 'anvillaw11.AccessBlind'. -/
def accessBlindCard : Claim7 := { stood := { row := accessBlindRow, standIns := [], harness := (true, "d2c23cbd40383840e51a9ec8bdfaba400bdd3d313340536b3a39dd24b73cb12a"), looks := false }, kinds := [], alts := [], laidByText := true, laidKinds := [.data], laidTests := true, laidLooks := .later }
def AccessBlindCardSaid : Prop := Claim7.holds Tryz.pinned (.plain (OpenSpec.ofChange accessBlindSpec)) accessBlindCard

/-- THE TIED CARD OF 'anvillaw11.AccessGranted'. -/
def accessGrantedCard : Claim7 := { stood := { row := accessGrantedRow, standIns := [], harness := (true, "d2c23cbd40383840e51a9ec8bdfaba400bdd3d313340536b3a39dd24b73cb12a"), looks := false }, kinds := [], alts := [], laidByText := true, laidKinds := [.data], laidTests := true, laidLooks := .later }
def AccessGrantedCardSaid : Prop := Claim7.holds Tryz.pinned (.plain (OpenSpec.ofChange accessGrantedSpec)) accessGrantedCard

/-- THE SECOND FORM's CARD OF 'anvillaw11.AccessOrder'. -/
def accessOrderUptoCard : Claim7 := { stood := { row := accessOrderUptoRow, standIns := [], harness := (true, "d2c23cbd40383840e51a9ec8bdfaba400bdd3d313340536b3a39dd24b73cb12a"), looks := false }, kinds := [], alts := [], laidByText := true, laidKinds := [.data], laidTests := true, laidLooks := .later }
def AccessOrderUptoCardSaid : Prop := Claim7.holds Tryz.pinned (.plain (OpenSpec.upto accessOrderSpec)) accessOrderUptoCard

/-- THE SECOND FORM's CARD OF 'anvillaw11.AccessPrecise'. -/
def accessPreciseUptoCard : Claim7 := { stood := { row := accessPreciseUptoRow, standIns := [], harness := (true, "d2c23cbd40383840e51a9ec8bdfaba400bdd3d313340536b3a39dd24b73cb12a"), looks := false }, kinds := [], alts := [], laidByText := true, laidKinds := [.data], laidTests := true, laidLooks := .later }
def AccessPreciseUptoCardSaid : Prop := Claim7.holds Tryz.pinned (.plain (OpenSpec.upto accessPreciseSpec)) accessPreciseUptoCard

/-- THE SECOND FORM's CARD OF 'anvillaw11.AccessAsU'. -/
def accessAsUUptoCard : Claim7 := { stood := { row := accessAsUUptoRow, standIns := [], harness := (true, "d2c23cbd40383840e51a9ec8bdfaba400bdd3d313340536b3a39dd24b73cb12a"), looks := false }, kinds := [], alts := [], laidByText := true, laidKinds := [.data], laidTests := true, laidLooks := .later }
def AccessAsUUptoCardSaid : Prop := Claim7.holds Tryz.pinned (.plain (OpenSpec.upto accessAsUSpec)) accessAsUUptoCard

/-- THE SECOND FORM's CARD OF 'anvillaw11.AccessBlind'. -/
def accessBlindUptoCard : Claim7 := { stood := { row := accessBlindUptoRow, standIns := [], harness := (true, "d2c23cbd40383840e51a9ec8bdfaba400bdd3d313340536b3a39dd24b73cb12a"), looks := false }, kinds := [], alts := [], laidByText := true, laidKinds := [.data], laidTests := true, laidLooks := .later }
def AccessBlindUptoCardSaid : Prop := Claim7.holds Tryz.pinned (.plain (OpenSpec.upto accessBlindSpec)) accessBlindUptoCard

/-- THE SECOND FORM's CARD OF 'anvillaw11.AccessGranted'. -/
def accessGrantedUptoCard : Claim7 := { stood := { row := accessGrantedUptoRow, standIns := [], harness := (true, "d2c23cbd40383840e51a9ec8bdfaba400bdd3d313340536b3a39dd24b73cb12a"), looks := false }, kinds := [], alts := [], laidByText := true, laidKinds := [.data], laidTests := true, laidLooks := .later }
def AccessGrantedUptoCardSaid : Prop := Claim7.holds Tryz.pinned (.plain (OpenSpec.upto accessGrantedSpec)) accessGrantedUptoCard
end Rows
end Go.Proofs.YtlhgphokfpnfeaaGreatDoor
