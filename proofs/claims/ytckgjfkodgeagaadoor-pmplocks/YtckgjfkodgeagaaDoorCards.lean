/-
  DERIVED. GIVEN WITH THE SEED: THE CARDS: each row of YtckgjfkodgeagaaDoorRows.lean that lists a variable, with what it lists TIED to the program's text (the seventh form; the later family's looks); each row that meets fmt, with fmt's text TOLD by the authors' own Lean function (tested against real Go, not proved from fmt's source: count such statements apart). THE CARD IS WHAT COUNTS. Prove the row's statement (the work); the ties are given (YtckgjfkodgeagaaDoorTie.lean); close each card by the builder's one call (the guide's Derived/Test/ToyasCard.lean, 'card_holds'). Laid BY PROGRAM, IN A SANDBOX (cutbox-door.mjs). By AI agents, Wed Nov 11 2026. No macro, syntax, notation, axiom, sorry.
-/
import Derived.Test.YtckgjfkodgeagaaDoorRows
import GoSem.ClaimSeven
namespace Go.Proofs.YtckgjfkodgeagaaDoor
namespace Rows

/-- THE TIED CARD OF 'anvillaw04.PmpSpans'. -/
def pmpSpansCard : Claim7 := { stood := { row := pmpSpansRow, standIns := [], harness := (true, "9495a876eed6a9c5fdb7fcabbf3562b26aecd038efd1b984106a430613d54f38"), looks := false }, kinds := [], alts := [], laidByText := true, laidKinds := [.data], laidTests := true, laidLooks := .later }
def PmpSpansCardSaid : Prop := Claim7.holds Tryd.pinned (.plain (OpenSpec.ofChange pmpSpansSpec)) pmpSpansCard

/-- THE TIED CARD OF 'anvillaw04.PmpMatches'. -/
def pmpMatchesCard : Claim7 := { stood := { row := pmpMatchesRow, standIns := [], harness := (true, "9495a876eed6a9c5fdb7fcabbf3562b26aecd038efd1b984106a430613d54f38"), looks := false }, kinds := [], alts := [], laidByText := true, laidKinds := [.data], laidTests := true, laidLooks := .later }
def PmpMatchesCardSaid : Prop := Claim7.holds Tryd.pinned (.plain (OpenSpec.ofChange pmpMatchesSpec)) pmpMatchesCard

/-- THE TIED CARD OF 'anvillaw04.PmpGrants'. -/
def pmpGrantsCard : Claim7 := { stood := { row := pmpGrantsRow, standIns := [], harness := (true, "9495a876eed6a9c5fdb7fcabbf3562b26aecd038efd1b984106a430613d54f38"), looks := false }, kinds := [], alts := [], laidByText := true, laidKinds := [.data], laidTests := true, laidLooks := .later }
def PmpGrantsCardSaid : Prop := Claim7.holds Tryd.pinned (.plain (OpenSpec.ofChange pmpGrantsSpec)) pmpGrantsCard

/-- THE TIED CARD OF 'anvillaw04.PmpLocks'. -/
def pmpLocksCard : Claim7 := { stood := { row := pmpLocksRow, standIns := [], harness := (true, "9495a876eed6a9c5fdb7fcabbf3562b26aecd038efd1b984106a430613d54f38"), looks := false }, kinds := [], alts := [], laidByText := true, laidKinds := [.data], laidTests := true, laidLooks := .later }
def PmpLocksCardSaid : Prop := Claim7.holds Tryd.pinned (.plain (OpenSpec.ofChange pmpLocksSpec)) pmpLocksCard

/-- THE SECOND FORM's CARD OF 'anvillaw04.PmpSpans'. -/
def pmpSpansUptoCard : Claim7 := { stood := { row := pmpSpansUptoRow, standIns := [], harness := (true, "9495a876eed6a9c5fdb7fcabbf3562b26aecd038efd1b984106a430613d54f38"), looks := false }, kinds := [], alts := [], laidByText := true, laidKinds := [.data], laidTests := true, laidLooks := .later }
def PmpSpansUptoCardSaid : Prop := Claim7.holds Tryd.pinned (.plain (OpenSpec.upto pmpSpansSpec)) pmpSpansUptoCard

/-- THE SECOND FORM's CARD OF 'anvillaw04.PmpMatches'. -/
def pmpMatchesUptoCard : Claim7 := { stood := { row := pmpMatchesUptoRow, standIns := [], harness := (true, "9495a876eed6a9c5fdb7fcabbf3562b26aecd038efd1b984106a430613d54f38"), looks := false }, kinds := [], alts := [], laidByText := true, laidKinds := [.data], laidTests := true, laidLooks := .later }
def PmpMatchesUptoCardSaid : Prop := Claim7.holds Tryd.pinned (.plain (OpenSpec.upto pmpMatchesSpec)) pmpMatchesUptoCard

/-- THE SECOND FORM's CARD OF 'anvillaw04.PmpGrants'. -/
def pmpGrantsUptoCard : Claim7 := { stood := { row := pmpGrantsUptoRow, standIns := [], harness := (true, "9495a876eed6a9c5fdb7fcabbf3562b26aecd038efd1b984106a430613d54f38"), looks := false }, kinds := [], alts := [], laidByText := true, laidKinds := [.data], laidTests := true, laidLooks := .later }
def PmpGrantsUptoCardSaid : Prop := Claim7.holds Tryd.pinned (.plain (OpenSpec.upto pmpGrantsSpec)) pmpGrantsUptoCard

/-- THE SECOND FORM's CARD OF 'anvillaw04.PmpLocks'. -/
def pmpLocksUptoCard : Claim7 := { stood := { row := pmpLocksUptoRow, standIns := [], harness := (true, "9495a876eed6a9c5fdb7fcabbf3562b26aecd038efd1b984106a430613d54f38"), looks := false }, kinds := [], alts := [], laidByText := true, laidKinds := [.data], laidTests := true, laidLooks := .later }
def PmpLocksUptoCardSaid : Prop := Claim7.holds Tryd.pinned (.plain (OpenSpec.upto pmpLocksSpec)) pmpLocksUptoCard
end Rows
end Go.Proofs.YtckgjfkodgeagaaDoor
