/-
  No cell of these rows narrows 'for every input' (looked for: loops, veiled, ifaces, maps, wideKeys, modest, calm, conditions, laid).
  DERIVED. THE GIVEN ROWS OF THIS SEAT. 3 by the template 'for every input the law returns true; each argument reads behind the call as it read before'; 0 by the template 'total and deterministic' (their statements: YtgblpjkpeihpeaaTotals.lean).
  GIVEN WITH THE SEED: the statements are not yours to turn. If you find one false, say at which input.
  Laid BY PROGRAM, IN A SANDBOX (cutbox-rows.mjs): the forced cells as the released guide's own fill.sh prints them over the translation c1fd8c1e9a7ce591… (all of the seat's roots in one cut). By AI agents, Wed Nov 11 2026. No macro, syntax, notation, axiom, sorry.
-/
import Derived.Test.YtgblpjkpeihpeaaChecked
import GoSem.Claim
import GoSem.ClaimJoined
import GoSem.ClaimMapViews
import Derived.JoinedTies
import Derived.KernelRfl
namespace Go.Proofs.Ytgblpjkpeihpeaa
/- THE CELL 'sum', in the pinned program and in every row, IS THE sha256 OF THE DUMP (.gsa) THAT YtgblpjkpeihpeaaProg.lean LOADS. Nothing in Lean hashes anything: it is a label: what it is worth is what the hold of that sum in a sandbox is worth. -/
noncomputable def Try.pinned : Pinned := { name := "ytgblpjkpeihpeaa", sum := "c1fd8c1e9a7ce591e62d31ceff22c590886de9d3c0c4755bade1d111a3381865", checked := Try.checked }
namespace Rows
def none {H : Type} : Left H := { results := [], args := [] }

/-- 'anvillaw16.SaveChecks': WHATEVER THE INPUT: true; the input reads as it did. -/
def saveChecksSpec : ChangeSpec := { name := "saveChecks", fn := fun _ => fun
  | [d] => { results := [.lit (.bool true)], args := [d] }
  | _ => none }
def saveChecksRow : OpenClaim := { program := "ytgblpjkpeihpeaa", sum := "c1fd8c1e9a7ce591e62d31ceff22c590886de9d3c0c4755bade1d111a3381865", func := "anvil/anvillaw16.SaveChecks", spec := "saveChecks", apart := false }
def SaveChecksSaid : Prop := saveChecksRow.holds Try.pinned (OpenSpec.ofChange saveChecksSpec)

/-- ITS FALSE NEIGHBOUR: 'it returns false'. Refute it at one input. -/
def saveChecksWrong : ChangeSpec := { name := "saveChecks", fn := fun _ => fun
  | [d] => { results := [.lit (.bool false)], args := [d] }
  | _ => none }
def SaveChecksWrongFalsely : Prop := saveChecksRow.holds Try.pinned (OpenSpec.ofChange saveChecksWrong)

/-- 'anvillaw16.SaveSaves': WHATEVER THE INPUT: true; the input reads as it did. -/
def saveSavesSpec : ChangeSpec := { name := "saveSaves", fn := fun _ => fun
  | [d] => { results := [.lit (.bool true)], args := [d] }
  | _ => none }
def saveSavesRow : OpenClaim := { program := "ytgblpjkpeihpeaa", sum := "c1fd8c1e9a7ce591e62d31ceff22c590886de9d3c0c4755bade1d111a3381865", func := "anvil/anvillaw16.SaveSaves", spec := "saveSaves", apart := false }
def SaveSavesSaid : Prop := saveSavesRow.holds Try.pinned (OpenSpec.ofChange saveSavesSpec)

/-- ITS FALSE NEIGHBOUR: 'it returns false'. Refute it at one input. -/
def saveSavesWrong : ChangeSpec := { name := "saveSaves", fn := fun _ => fun
  | [d] => { results := [.lit (.bool false)], args := [d] }
  | _ => none }
def SaveSavesWrongFalsely : Prop := saveSavesRow.holds Try.pinned (OpenSpec.ofChange saveSavesWrong)

/-- 'anvillaw16.SaveLoads': WHATEVER THE INPUT: true; the input reads as it did. -/
def saveLoadsSpec : ChangeSpec := { name := "saveLoads", fn := fun _ => fun
  | [d] => { results := [.lit (.bool true)], args := [d] }
  | _ => none }
def saveLoadsRow : OpenClaim := { program := "ytgblpjkpeihpeaa", sum := "c1fd8c1e9a7ce591e62d31ceff22c590886de9d3c0c4755bade1d111a3381865", func := "anvil/anvillaw16.SaveLoads", spec := "saveLoads", apart := false }
def SaveLoadsSaid : Prop := saveLoadsRow.holds Try.pinned (OpenSpec.ofChange saveLoadsSpec)

/-- ITS FALSE NEIGHBOUR: 'it returns false'. Refute it at one input. -/
def saveLoadsWrong : ChangeSpec := { name := "saveLoads", fn := fun _ => fun
  | [d] => { results := [.lit (.bool false)], args := [d] }
  | _ => none }
def SaveLoadsWrongFalsely : Prop := saveLoadsRow.holds Try.pinned (OpenSpec.ofChange saveLoadsWrong)

/- THE SECOND FORM. 'bulk': how many values and letters a reading holds, each counted each time it is reached (what is shared counts as often as it is met; a slice's spare places count too). A statement '..UptoSaid' is the law's where the arguments, and the package variables that the reading takes, are together of bulk at most 1048576: NARROWER than '..Said'. Prove '..Said' where nothing that the law and all that it calls make is longer than what came in: it says more and counts as full. Else prove '..UptoSaid'. A law counts once. -/
mutual
def uptoBulk {H : Type} : DataW H → Nat
  | .lit (.string bytes) => bytes.length + 1
  | .lit _ => 1
  | .nil => 1
  | .ptr d => uptoBulk d + 1
  | .slice elems spare => uptoBulkAll elems + uptoBulkAll spare + 1
  | .agg parts => uptoBulkAll parts + 1
  | .iface _ d => uptoBulk d + 1
  | .map entries => uptoBulkEntries entries + 1
  | .held _ => 1
def uptoBulkAll {H : Type} : List (DataW H) → Nat
  | [] => 0
  | d :: r => uptoBulk d + uptoBulkAll r
def uptoBulkEntries {H : Type} : List (Lit × DataW H) → Nat
  | [] => 0
  | x :: r => uptoBulkEntry x + uptoBulkEntries r
def uptoBulkEntry {H : Type} : Lit × DataW H → Nat
  | (.string bytes, d) => bytes.length + uptoBulk d + 1
  | (_, d) => uptoBulk d + 1
 end
def uptoSmall : (H : Type) → List (DataW H) → Bool := fun _ ds => decide (uptoBulkAll ds ≤ 1048576)
def OpenSpec.upto (s : _root_.Go.ChangeSpec) : _root_.Go.OpenSpec := { _root_.Go.OpenSpec.ofChange s with cond := some uptoSmall }

/-- 'anvillaw16.SaveChecks', WHERE WHAT IT READS IS OF BULK AT MOST 1048576: true; the input reads as it did. -/
def saveChecksUptoRow : OpenClaim := { program := "ytgblpjkpeihpeaa", sum := "c1fd8c1e9a7ce591e62d31ceff22c590886de9d3c0c4755bade1d111a3381865", func := "anvil/anvillaw16.SaveChecks", spec := "saveChecks", apart := false, narrowed := true }
def SaveChecksUptoSaid : Prop := saveChecksUptoRow.holds Try.pinned (OpenSpec.upto saveChecksSpec)

/-- 'anvillaw16.SaveSaves', WHERE WHAT IT READS IS OF BULK AT MOST 1048576: true; the input reads as it did. -/
def saveSavesUptoRow : OpenClaim := { program := "ytgblpjkpeihpeaa", sum := "c1fd8c1e9a7ce591e62d31ceff22c590886de9d3c0c4755bade1d111a3381865", func := "anvil/anvillaw16.SaveSaves", spec := "saveSaves", apart := false, narrowed := true }
def SaveSavesUptoSaid : Prop := saveSavesUptoRow.holds Try.pinned (OpenSpec.upto saveSavesSpec)

/-- 'anvillaw16.SaveLoads', WHERE WHAT IT READS IS OF BULK AT MOST 1048576: true; the input reads as it did. -/
def saveLoadsUptoRow : OpenClaim := { program := "ytgblpjkpeihpeaa", sum := "c1fd8c1e9a7ce591e62d31ceff22c590886de9d3c0c4755bade1d111a3381865", func := "anvil/anvillaw16.SaveLoads", spec := "saveLoads", apart := false, narrowed := true }
def SaveLoadsUptoSaid : Prop := saveLoadsUptoRow.holds Try.pinned (OpenSpec.upto saveLoadsSpec)

end Rows
end Go.Proofs.Ytgblpjkpeihpeaa
