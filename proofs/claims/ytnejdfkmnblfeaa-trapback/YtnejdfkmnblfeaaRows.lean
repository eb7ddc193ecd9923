/-
  No cell of these rows narrows 'for every input' (looked for: loops, veiled, ifaces, maps, wideKeys, modest, calm, conditions, laid).
  DERIVED. THE GIVEN ROWS OF THIS SEAT. 6 by the template 'for every input the law returns true; each argument reads behind the call as it read before'; 0 by the template 'total and deterministic' (their statements: YtnejdfkmnblfeaaTotals.lean).
  GIVEN WITH THE SEED: the statements are not yours to turn. If you find one false, say at which input.
  Laid BY PROGRAM, IN A SANDBOX (cutbox-rows.mjs): the forced cells as the released guide's own fill.sh prints them over the translation 79da165edae6d974… (all of the seat's roots in one cut). By AI agents, Wed Nov 11 2026. No macro, syntax, notation, axiom, sorry.
-/
import Derived.Test.YtnejdfkmnblfeaaChecked
import GoSem.Claim
import GoSem.ClaimJoined
import GoSem.ClaimMapViews
import Derived.JoinedTies
import Derived.KernelRfl
namespace Go.Proofs.Ytnejdfkmnblfeaa
/- THE CELL 'sum', in the pinned program and in every row, IS THE sha256 OF THE DUMP (.gsa) THAT YtnejdfkmnblfeaaProg.lean LOADS. Nothing in Lean hashes anything: it is a label: what it is worth is what the hold of that sum in a sandbox is worth. -/
noncomputable def Try.pinned : Pinned := { name := "ytnejdfkmnblfeaa", sum := "79da165edae6d974bc44e66530e8ef3b33b990322732c4e0de103f12e3751467", checked := Try.checked }
namespace Rows
def none {H : Type} : Left H := { results := [], args := [] }

/-- 'anvillaw10.TrapPends': WHATEVER THE INPUT: true; the input reads as it did. -/
def trapPendsSpec : ChangeSpec := { name := "trapPends", fn := fun _ => fun
  | [d1, d2] => { results := [.lit (.bool true)], args := [d1, d2] }
  | _ => none }
def trapPendsRow : OpenClaim := { program := "ytnejdfkmnblfeaa", sum := "79da165edae6d974bc44e66530e8ef3b33b990322732c4e0de103f12e3751467", func := "anvil/anvillaw10.TrapPends", spec := "trapPends", apart := false }
def TrapPendsSaid : Prop := trapPendsRow.holds Try.pinned (OpenSpec.ofChange trapPendsSpec)

/-- ITS FALSE NEIGHBOUR: 'it returns false'. Refute it at one input. -/
def trapPendsWrong : ChangeSpec := { name := "trapPends", fn := fun _ => fun
  | [d1, d2] => { results := [.lit (.bool false)], args := [d1, d2] }
  | _ => none }
def TrapPendsWrongFalsely : Prop := trapPendsRow.holds Try.pinned (OpenSpec.ofChange trapPendsWrong)

/-- 'anvillaw10.TrapOrder': WHATEVER THE INPUT: true; the input reads as it did. -/
def trapOrderSpec : ChangeSpec := { name := "trapOrder", fn := fun _ => fun
  | [d1, d2, d3, d4] => { results := [.lit (.bool true)], args := [d1, d2, d3, d4] }
  | _ => none }
def trapOrderRow : OpenClaim := { program := "ytnejdfkmnblfeaa", sum := "79da165edae6d974bc44e66530e8ef3b33b990322732c4e0de103f12e3751467", func := "anvil/anvillaw10.TrapOrder", spec := "trapOrder", apart := false }
def TrapOrderSaid : Prop := trapOrderRow.holds Try.pinned (OpenSpec.ofChange trapOrderSpec)

/-- ITS FALSE NEIGHBOUR: 'it returns false'. Refute it at one input. -/
def trapOrderWrong : ChangeSpec := { name := "trapOrder", fn := fun _ => fun
  | [d1, d2, d3, d4] => { results := [.lit (.bool false)], args := [d1, d2, d3, d4] }
  | _ => none }
def TrapOrderWrongFalsely : Prop := trapOrderRow.holds Try.pinned (OpenSpec.ofChange trapOrderWrong)

/-- 'anvillaw10.TrapProper': WHATEVER THE INPUT: true; the input reads as it did. -/
def trapProperSpec : ChangeSpec := { name := "trapProper", fn := fun _ => fun
  | [d1, d2, d3, d4] => { results := [.lit (.bool true)], args := [d1, d2, d3, d4] }
  | _ => none }
def trapProperRow : OpenClaim := { program := "ytnejdfkmnblfeaa", sum := "79da165edae6d974bc44e66530e8ef3b33b990322732c4e0de103f12e3751467", func := "anvil/anvillaw10.TrapProper", spec := "trapProper", apart := false }
def TrapProperSaid : Prop := trapProperRow.holds Try.pinned (OpenSpec.ofChange trapProperSpec)

/-- ITS FALSE NEIGHBOUR: 'it returns false'. Refute it at one input. -/
def trapProperWrong : ChangeSpec := { name := "trapProper", fn := fun _ => fun
  | [d1, d2, d3, d4] => { results := [.lit (.bool false)], args := [d1, d2, d3, d4] }
  | _ => none }
def TrapProperWrongFalsely : Prop := trapProperRow.holds Try.pinned (OpenSpec.ofChange trapProperWrong)

/-- 'anvillaw10.TrapBack': WHATEVER THE INPUT: true; the input reads as it did. -/
def trapBackSpec : ChangeSpec := { name := "trapBack", fn := fun _ => fun
  | [d1, d2, d3] => { results := [.lit (.bool true)], args := [d1, d2, d3] }
  | _ => none }
def trapBackRow : OpenClaim := { program := "ytnejdfkmnblfeaa", sum := "79da165edae6d974bc44e66530e8ef3b33b990322732c4e0de103f12e3751467", func := "anvil/anvillaw10.TrapBack", spec := "trapBack", apart := false }
def TrapBackSaid : Prop := trapBackRow.holds Try.pinned (OpenSpec.ofChange trapBackSpec)

/-- ITS FALSE NEIGHBOUR: 'it returns false'. Refute it at one input. -/
def trapBackWrong : ChangeSpec := { name := "trapBack", fn := fun _ => fun
  | [d1, d2, d3] => { results := [.lit (.bool false)], args := [d1, d2, d3] }
  | _ => none }
def TrapBackWrongFalsely : Prop := trapBackRow.holds Try.pinned (OpenSpec.ofChange trapBackWrong)

/-- 'anvillaw10.TrapSilent': WHATEVER THE INPUT: true; the input reads as it did. -/
def trapSilentSpec : ChangeSpec := { name := "trapSilent", fn := fun _ => fun
  | [d1, d2, d3, d4] => { results := [.lit (.bool true)], args := [d1, d2, d3, d4] }
  | _ => none }
def trapSilentRow : OpenClaim := { program := "ytnejdfkmnblfeaa", sum := "79da165edae6d974bc44e66530e8ef3b33b990322732c4e0de103f12e3751467", func := "anvil/anvillaw10.TrapSilent", spec := "trapSilent", apart := false }
def TrapSilentSaid : Prop := trapSilentRow.holds Try.pinned (OpenSpec.ofChange trapSilentSpec)

/-- ITS FALSE NEIGHBOUR: 'it returns false'. Refute it at one input. -/
def trapSilentWrong : ChangeSpec := { name := "trapSilent", fn := fun _ => fun
  | [d1, d2, d3, d4] => { results := [.lit (.bool false)], args := [d1, d2, d3, d4] }
  | _ => none }
def TrapSilentWrongFalsely : Prop := trapSilentRow.holds Try.pinned (OpenSpec.ofChange trapSilentWrong)

/-- 'anvillaw10.TrapModes': WHATEVER THE INPUT: true; the input reads as it did. -/
def trapModesSpec : ChangeSpec := { name := "trapModes", fn := fun _ => fun
  | [d] => { results := [.lit (.bool true)], args := [d] }
  | _ => none }
def trapModesRow : OpenClaim := { program := "ytnejdfkmnblfeaa", sum := "79da165edae6d974bc44e66530e8ef3b33b990322732c4e0de103f12e3751467", func := "anvil/anvillaw10.TrapModes", spec := "trapModes", apart := false }
def TrapModesSaid : Prop := trapModesRow.holds Try.pinned (OpenSpec.ofChange trapModesSpec)

/-- ITS FALSE NEIGHBOUR: 'it returns false'. Refute it at one input. -/
def trapModesWrong : ChangeSpec := { name := "trapModes", fn := fun _ => fun
  | [d] => { results := [.lit (.bool false)], args := [d] }
  | _ => none }
def TrapModesWrongFalsely : Prop := trapModesRow.holds Try.pinned (OpenSpec.ofChange trapModesWrong)

/- THE SECOND FORM. 'bulk': how many values and letters a reading holds, each counted each time it is reached (what is shared counts as often as it is met; a slice's spare places count too). A statement '..UptoSaid' is the law's where the arguments, and the package variables that the reading takes, are together of bulk at most 1048576: NARROWER than '..Said'. Prove '..Said' where nothing that the law and all that it calls make is longer than what came in: it says more and counts as full. Else prove '..UptoSaid'. A law counts once. -/
mutual
def uptoBulk {H : Type} : DataW H → Nat
  | .lit (.string bytes) => bytes.length + 1
  | .lit _ => 1
  | .nil => 1
  | .ptr d => uptoBulk d + 1
  | .slice elems spare => uptoBulkAll elems + uptoBulkAll spare + 1
  | .agg parts => uptoBulkAll parts + 1
  | .iface _ d => uptoBulk d + 1
  | .map entries => uptoBulkEntries entries + 1
  | .held _ => 1
def uptoBulkAll {H : Type} : List (DataW H) → Nat
  | [] => 0
  | d :: r => uptoBulk d + uptoBulkAll r
def uptoBulkEntries {H : Type} : List (Lit × DataW H) → Nat
  | [] => 0
  | x :: r => uptoBulkEntry x + uptoBulkEntries r
def uptoBulkEntry {H : Type} : Lit × DataW H → Nat
  | (.string bytes, d) => bytes.length + uptoBulk d + 1
  | (_, d) => uptoBulk d + 1
 end
def uptoSmall : (H : Type) → List (DataW H) → Bool := fun _ ds => decide (uptoBulkAll ds ≤ 1048576)
def OpenSpec.upto (s : _root_.Go.ChangeSpec) : _root_.Go.OpenSpec := { _root_.Go.OpenSpec.ofChange s with cond := some uptoSmall }

/-- 'anvillaw10.TrapPends', WHERE WHAT IT READS IS OF BULK AT MOST 1048576: true; the input reads as it did. -/
def trapPendsUptoRow : OpenClaim := { program := "ytnejdfkmnblfeaa", sum := "79da165edae6d974bc44e66530e8ef3b33b990322732c4e0de103f12e3751467", func := "anvil/anvillaw10.TrapPends", spec := "trapPends", apart := false, narrowed := true }
def TrapPendsUptoSaid : Prop := trapPendsUptoRow.holds Try.pinned (OpenSpec.upto trapPendsSpec)

/-- 'anvillaw10.TrapOrder', WHERE WHAT IT READS IS OF BULK AT MOST 1048576: true; the input reads as it did. -/
def trapOrderUptoRow : OpenClaim := { program := "ytnejdfkmnblfeaa", sum := "79da165edae6d974bc44e66530e8ef3b33b990322732c4e0de103f12e3751467", func := "anvil/anvillaw10.TrapOrder", spec := "trapOrder", apart := false, narrowed := true }
def TrapOrderUptoSaid : Prop := trapOrderUptoRow.holds Try.pinned (OpenSpec.upto trapOrderSpec)

/-- 'anvillaw10.TrapProper', WHERE WHAT IT READS IS OF BULK AT MOST 1048576: true; the input reads as it did. -/
def trapProperUptoRow : OpenClaim := { program := "ytnejdfkmnblfeaa", sum := "79da165edae6d974bc44e66530e8ef3b33b990322732c4e0de103f12e3751467", func := "anvil/anvillaw10.TrapProper", spec := "trapProper", apart := false, narrowed := true }
def TrapProperUptoSaid : Prop := trapProperUptoRow.holds Try.pinned (OpenSpec.upto trapProperSpec)

/-- 'anvillaw10.TrapBack', WHERE WHAT IT READS IS OF BULK AT MOST 1048576: true; the input reads as it did. -/
def trapBackUptoRow : OpenClaim := { program := "ytnejdfkmnblfeaa", sum := "79da165edae6d974bc44e66530e8ef3b33b990322732c4e0de103f12e3751467", func := "anvil/anvillaw10.TrapBack", spec := "trapBack", apart := false, narrowed := true }
def TrapBackUptoSaid : Prop := trapBackUptoRow.holds Try.pinned (OpenSpec.upto trapBackSpec)

/-- 'anvillaw10.TrapSilent', WHERE WHAT IT READS IS OF BULK AT MOST 1048576: true; the input reads as it did. -/
def trapSilentUptoRow : OpenClaim := { program := "ytnejdfkmnblfeaa", sum := "79da165edae6d974bc44e66530e8ef3b33b990322732c4e0de103f12e3751467", func := "anvil/anvillaw10.TrapSilent", spec := "trapSilent", apart := false, narrowed := true }
def TrapSilentUptoSaid : Prop := trapSilentUptoRow.holds Try.pinned (OpenSpec.upto trapSilentSpec)

/-- 'anvillaw10.TrapModes', WHERE WHAT IT READS IS OF BULK AT MOST 1048576: true; the input reads as it did. -/
def trapModesUptoRow : OpenClaim := { program := "ytnejdfkmnblfeaa", sum := "79da165edae6d974bc44e66530e8ef3b33b990322732c4e0de103f12e3751467", func := "anvil/anvillaw10.TrapModes", spec := "trapModes", apart := false, narrowed := true }
def TrapModesUptoSaid : Prop := trapModesUptoRow.holds Try.pinned (OpenSpec.upto trapModesSpec)

end Rows
end Go.Proofs.Ytnejdfkmnblfeaa
