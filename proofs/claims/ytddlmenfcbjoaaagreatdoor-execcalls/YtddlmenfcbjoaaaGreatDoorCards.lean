/-
  DERIVED. GIVEN WITH THE SEED: THE CARDS: each row of YtddlmenfcbjoaaaGreatDoorRows.lean that lists a variable, with what it lists TIED to the program's text (the seventh form; the later family's looks); each row that meets fmt, with fmt's text TOLD by the authors' own Lean function (tested against real Go, not proved from fmt's source: count such statements apart). THE CARD IS WHAT COUNTS. Prove the row's statement (the work); the ties are given (YtddlmenfcbjoaaaGreatDoorTie.lean); close each card by the builder's one call (the guide's Derived/Test/ToyasCard.lean, 'card_holds'). Laid BY PROGRAM, IN A SANDBOX (cutbox-door.mjs). By AI agents, Wed Nov 11 2026. No macro, syntax, notation, axiom, sorry.
-/
import Derived.Test.YtddlmenfcbjoaaaGreatDoorRows
import GoSem.ClaimSeven
namespace Go.Proofs.YtddlmenfcbjoaaaGreatDoor
namespace Rows

/-- THE TIED CARD OF 'anvillaw12.ExecCalls'. -/
def execCallsCard : Claim7 := { stood := { row := execCallsRow, standIns := [], harness := (true, "9fc7761e834e6c13ef98c5e052327ace56b2cd5745658ff8878ae77873a01601"), looks := true }, kinds := [], alts := [], laidByText := true, laidKinds := [.data], laidTests := true, laidLooks := .later }
def ExecCallsCardSaid : Prop := Claim7.holds Tryz.pinned (.plain (OpenSpec.ofChange execCallsSpec)) execCallsCard

/-- THE TIED CARD OF 'anvillaw12.ExecPrecise'. -/
def execPreciseCard : Claim7 := { stood := { row := execPreciseRow, standIns := [], harness := (true, "9fc7761e834e6c13ef98c5e052327ace56b2cd5745658ff8878ae77873a01601"), looks := true }, kinds := [], alts := [], laidByText := true, laidKinds := [.data], laidTests := true, laidLooks := .later }
def ExecPreciseCardSaid : Prop := Claim7.holds Tryz.pinned (.plain (OpenSpec.ofChange execPreciseSpec)) execPreciseCard

/-- THE TIED CARD OF 'anvillaw12.ExecReads'. -/
def execReadsCard : Claim7 := { stood := { row := execReadsRow, standIns := [], harness := (true, "9fc7761e834e6c13ef98c5e052327ace56b2cd5745658ff8878ae77873a01601"), looks := true }, kinds := [], alts := [], laidByText := true, laidKinds := [.data], laidTests := true, laidLooks := .later }
def ExecReadsCardSaid : Prop := Claim7.holds Tryz.pinned (.plain (OpenSpec.ofChange execReadsSpec)) execReadsCard

/-- THE TIED CARD OF 'anvillaw12.ExecLength'. -/
def execLengthCard : Claim7 := { stood := { row := execLengthRow, standIns := [], harness := (true, "9fc7761e834e6c13ef98c5e052327ace56b2cd5745658ff8878ae77873a01601"), looks := true }, kinds := [], alts := [], laidByText := true, laidKinds := [.data], laidTests := true, laidLooks := .later }
def ExecLengthCardSaid : Prop := Claim7.holds Tryz.pinned (.plain (OpenSpec.ofChange execLengthSpec)) execLengthCard

/-- THE TIED CARD OF 'anvillaw12.ExecFrame'. -/
def execFrameCard : Claim7 := { stood := { row := execFrameRow, standIns := [], harness := (true, "9fc7761e834e6c13ef98c5e052327ace56b2cd5745658ff8878ae77873a01601"), looks := true }, kinds := [], alts := [], laidByText := true, laidKinds := [.data], laidTests := true, laidLooks := .later }
def ExecFrameCardSaid : Prop := Claim7.holds Tryz.pinned (.plain (OpenSpec.ofChange execFrameSpec)) execFrameCard

/-- THE SECOND FORM's CARD OF 'anvillaw12.ExecCalls'. -/
def execCallsUptoCard : Claim7 := { stood := { row := execCallsUptoRow, standIns := [], harness := (true, "9fc7761e834e6c13ef98c5e052327ace56b2cd5745658ff8878ae77873a01601"), looks := true }, kinds := [], alts := [], laidByText := true, laidKinds := [.data], laidTests := true, laidLooks := .later }
def ExecCallsUptoCardSaid : Prop := Claim7.holds Tryz.pinned (.plain (OpenSpec.upto execCallsSpec)) execCallsUptoCard

/-- THE SECOND FORM's CARD OF 'anvillaw12.ExecPrecise'. -/
def execPreciseUptoCard : Claim7 := { stood := { row := execPreciseUptoRow, standIns := [], harness := (true, "9fc7761e834e6c13ef98c5e052327ace56b2cd5745658ff8878ae77873a01601"), looks := true }, kinds := [], alts := [], laidByText := true, laidKinds := [.data], laidTests := true, laidLooks := .later }
def ExecPreciseUptoCardSaid : Prop := Claim7.holds Tryz.pinned (.plain (OpenSpec.upto execPreciseSpec)) execPreciseUptoCard

/-- THE SECOND FORM's CARD OF 'anvillaw12.ExecReads'. -/
def execReadsUptoCard : Claim7 := { stood := { row := execReadsUptoRow, standIns := [], harness := (true, "9fc7761e834e6c13ef98c5e052327ace56b2cd5745658ff8878ae77873a01601"), looks := true }, kinds := [], alts := [], laidByText := true, laidKinds := [.data], laidTests := true, laidLooks := .later }
def ExecReadsUptoCardSaid : Prop := Claim7.holds Tryz.pinned (.plain (OpenSpec.upto execReadsSpec)) execReadsUptoCard

/-- THE SECOND FORM's CARD OF 'anvillaw12.ExecLength'. -/
def execLengthUptoCard : Claim7 := { stood := { row := execLengthUptoRow, standIns := [], harness := (true, "9fc7761e834e6c13ef98c5e052327ace56b2cd5745658ff8878ae77873a01601"), looks := true }, kinds := [], alts := [], laidByText := true, laidKinds := [.data], laidTests := true, laidLooks := .later }
def ExecLengthUptoCardSaid : Prop := Claim7.holds Tryz.pinned (.plain (OpenSpec.upto execLengthSpec)) execLengthUptoCard

/-- THE SECOND FORM's CARD OF 'anvillaw12.ExecFrame'. -/
def execFrameUptoCard : Claim7 := { stood := { row := execFrameUptoRow, standIns := [], harness := (true, "9fc7761e834e6c13ef98c5e052327ace56b2cd5745658ff8878ae77873a01601"), looks := true }, kinds := [], alts := [], laidByText := true, laidKinds := [.data], laidTests := true, laidLooks := .later }
def ExecFrameUptoCardSaid : Prop := Claim7.holds Tryz.pinned (.plain (OpenSpec.upto execFrameSpec)) execFrameUptoCard
end Rows
end Go.Proofs.YtddlmenfcbjoaaaGreatDoor
