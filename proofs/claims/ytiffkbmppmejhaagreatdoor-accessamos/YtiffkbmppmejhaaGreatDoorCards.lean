/-
  DERIVED. GIVEN WITH THE SEED: THE CARDS: each row of YtiffkbmppmejhaaGreatDoorRows.lean that lists a variable, with what it lists TIED to the program's text (the seventh form; the later family's looks); each row that meets fmt, with fmt's text TOLD by the authors' own Lean function (tested against real Go, not proved from fmt's source: count such statements apart). THE CARD IS WHAT COUNTS. Prove the row's statement (the work); the ties are given (YtiffkbmppmejhaaGreatDoorTie.lean); close each card by the builder's one call (the guide's Derived/Test/ToyasCard.lean, 'card_holds'). Laid BY PROGRAM, IN A SANDBOX (cutbox-door.mjs). By AI agents, Wed Nov 11 2026. No macro, syntax, notation, axiom, sorry.
-/
import Derived.Test.YtiffkbmppmejhaaGreatDoorRows
import GoSem.ClaimSeven
namespace Go.Proofs.YtiffkbmppmejhaaGreatDoor
namespace Rows

/-- THE TIED CARD OF 'anvillaw11.AccessFetches'. -/
def accessFetchesCard : Claim7 := { stood := { row := accessFetchesRow, standIns := [], harness := (true, "8008be57bb44dd624a7369e9aa9fc945b9f36c7ad201921e36827d27855ca25c"), looks := false }, kinds := [], alts := [], laidByText := true, laidKinds := [.data], laidTests := true, laidLooks := .later }
def AccessFetchesCardSaid : Prop := Claim7.holds Tryz.pinned (.plain (OpenSpec.ofChange accessFetchesSpec)) accessFetchesCard

/-- THE TIED CARD OF 'anvillaw11.AccessLoads'. -/
def accessLoadsCard : Claim7 := { stood := { row := accessLoadsRow, standIns := [], harness := (true, "8008be57bb44dd624a7369e9aa9fc945b9f36c7ad201921e36827d27855ca25c"), looks := false }, kinds := [], alts := [], laidByText := true, laidKinds := [.data], laidTests := true, laidLooks := .later }
def AccessLoadsCardSaid : Prop := Claim7.holds Tryz.pinned (.plain (OpenSpec.ofChange accessLoadsSpec)) accessLoadsCard

/-- THE TIED CARD OF 'anvillaw11.AccessStores'. -/
def accessStoresCard : Claim7 := { stood := { row := accessStoresRow, standIns := [], harness := (true, "8008be57bb44dd624a7369e9aa9fc945b9f36c7ad201921e36827d27855ca25c"), looks := false }, kinds := [], alts := [], laidByText := true, laidKinds := [.data], laidTests := true, laidLooks := .later }
def AccessStoresCardSaid : Prop := Claim7.holds Tryz.pinned (.plain (OpenSpec.ofChange accessStoresSpec)) accessStoresCard

/-- THE TIED CARD OF 'anvillaw11.AccessReserves'. -/
def accessReservesCard : Claim7 := { stood := { row := accessReservesRow, standIns := [], harness := (true, "8008be57bb44dd624a7369e9aa9fc945b9f36c7ad201921e36827d27855ca25c"), looks := false }, kinds := [], alts := [], laidByText := true, laidKinds := [.data], laidTests := true, laidLooks := .later }
def AccessReservesCardSaid : Prop := Claim7.holds Tryz.pinned (.plain (OpenSpec.ofChange accessReservesSpec)) accessReservesCard

/-- THE TIED CARD OF 'anvillaw11.AccessConditionals'. -/
def accessConditionalsCard : Claim7 := { stood := { row := accessConditionalsRow, standIns := [], harness := (true, "8008be57bb44dd624a7369e9aa9fc945b9f36c7ad201921e36827d27855ca25c"), looks := false }, kinds := [], alts := [], laidByText := true, laidKinds := [.data], laidTests := true, laidLooks := .later }
def AccessConditionalsCardSaid : Prop := Claim7.holds Tryz.pinned (.plain (OpenSpec.ofChange accessConditionalsSpec)) accessConditionalsCard

/-- THE TIED CARD OF 'anvillaw11.AccessAmos'. -/
def accessAmosCard : Claim7 := { stood := { row := accessAmosRow, standIns := [], harness := (true, "8008be57bb44dd624a7369e9aa9fc945b9f36c7ad201921e36827d27855ca25c"), looks := false }, kinds := [], alts := [], laidByText := true, laidKinds := [.data], laidTests := true, laidLooks := .later }
def AccessAmosCardSaid : Prop := Claim7.holds Tryz.pinned (.plain (OpenSpec.ofChange accessAmosSpec)) accessAmosCard

/-- THE SECOND FORM's CARD OF 'anvillaw11.AccessFetches'. -/
def accessFetchesUptoCard : Claim7 := { stood := { row := accessFetchesUptoRow, standIns := [], harness := (true, "8008be57bb44dd624a7369e9aa9fc945b9f36c7ad201921e36827d27855ca25c"), looks := false }, kinds := [], alts := [], laidByText := true, laidKinds := [.data], laidTests := true, laidLooks := .later }
def AccessFetchesUptoCardSaid : Prop := Claim7.holds Tryz.pinned (.plain (OpenSpec.upto accessFetchesSpec)) accessFetchesUptoCard

/-- THE SECOND FORM's CARD OF 'anvillaw11.AccessLoads'. -/
def accessLoadsUptoCard : Claim7 := { stood := { row := accessLoadsUptoRow, standIns := [], harness := (true, "8008be57bb44dd624a7369e9aa9fc945b9f36c7ad201921e36827d27855ca25c"), looks := false }, kinds := [], alts := [], laidByText := true, laidKinds := [.data], laidTests := true, laidLooks := .later }
def AccessLoadsUptoCardSaid : Prop := Claim7.holds Tryz.pinned (.plain (OpenSpec.upto accessLoadsSpec)) accessLoadsUptoCard

/-- THE SECOND FORM's CARD OF 'anvillaw11.AccessStores'. -/
def accessStoresUptoCard : Claim7 := { stood := { row := accessStoresUptoRow, standIns := [], harness := (true, "8008be57bb44dd624a7369e9aa9fc945b9f36c7ad201921e36827d27855ca25c"), looks := false }, kinds := [], alts := [], laidByText := true, laidKinds := [.data], laidTests := true, laidLooks := .later }
def AccessStoresUptoCardSaid : Prop := Claim7.holds Tryz.pinned (.plain (OpenSpec.upto accessStoresSpec)) accessStoresUptoCard

/-- THE SECOND FORM's CARD OF 'anvillaw11.AccessReserves'. -/
def accessReservesUptoCard : Claim7 := { stood := { row := accessReservesUptoRow, standIns := [], harness := (true, "8008be57bb44dd624a7369e9aa9fc945b9f36c7ad201921e36827d27855ca25c"), looks := false }, kinds := [], alts := [], laidByText := true, laidKinds := [.data], laidTests := true, laidLooks := .later }
def AccessReservesUptoCardSaid : Prop := Claim7.holds Tryz.pinned (.plain (OpenSpec.upto accessReservesSpec)) accessReservesUptoCard

/-- THE SECOND FORM's CARD OF 'anvillaw11.AccessConditionals'. -/
def accessConditionalsUptoCard : Claim7 := { stood := { row := accessConditionalsUptoRow, standIns := [], harness := (true, "8008be57bb44dd624a7369e9aa9fc945b9f36c7ad201921e36827d27855ca25c"), looks := false }, kinds := [], alts := [], laidByText := true, laidKinds := [.data], laidTests := true, laidLooks := .later }
def AccessConditionalsUptoCardSaid : Prop := Claim7.holds Tryz.pinned (.plain (OpenSpec.upto accessConditionalsSpec)) accessConditionalsUptoCard

/-- THE SECOND FORM's CARD OF 'anvillaw11.AccessAmos'. -/
def accessAmosUptoCard : Claim7 := { stood := { row := accessAmosUptoRow, standIns := [], harness := (true, "8008be57bb44dd624a7369e9aa9fc945b9f36c7ad201921e36827d27855ca25c"), looks := false }, kinds := [], alts := [], laidByText := true, laidKinds := [.data], laidTests := true, laidLooks := .later }
def AccessAmosUptoCardSaid : Prop := Claim7.holds Tryz.pinned (.plain (OpenSpec.upto accessAmosSpec)) accessAmosUptoCard
end Rows
end Go.Proofs.YtiffkbmppmejhaaGreatDoor
