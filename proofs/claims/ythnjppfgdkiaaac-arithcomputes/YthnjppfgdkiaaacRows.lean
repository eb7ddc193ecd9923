/-
  No cell of these rows narrows 'for every input' (looked for: loops, veiled, ifaces, maps, wideKeys, modest, calm, conditions, laid).
  DERIVED. THE GIVEN ROWS OF THIS SEAT. 3 by the template 'for every input the law returns true; each argument reads behind the call as it read before'; 0 by the template 'total and deterministic' (their statements: YthnjppfgdkiaaacTotals.lean).
  GIVEN WITH THE SEED: the statements are not yours to turn. If you find one false, say at which input.
  Laid BY PROGRAM, IN A SANDBOX (cutbox-rows.mjs): the forced cells as the released guide's own fill.sh prints them over the translation 76fe8fab552d58ba… (all of the seat's roots in one cut). By AI agents, Wed Nov 11 2026. No macro, syntax, notation, axiom, sorry.
-/
import Derived.Test.YthnjppfgdkiaaacChecked
import GoSem.Claim
import GoSem.ClaimJoined
import GoSem.ClaimMapViews
import Derived.JoinedTies
import Derived.KernelRfl
namespace Go.Proofs.Ythnjppfgdkiaaac
/- THE CELL 'sum', in the pinned program and in every row, IS THE sha256 OF THE DUMP (.gsa) THAT YthnjppfgdkiaaacProg.lean LOADS. Nothing in Lean hashes anything: it is a label: what it is worth is what the hold of that sum in a sandbox is worth. -/
noncomputable def Try.pinned : Pinned := { name := "ythnjppfgdkiaaac", sum := "76fe8fab552d58bad75bec944bb5c5794fa6c0b823d1cf26d0ede74566b21f16", checked := Try.checked }
namespace Rows
def none {H : Type} : Left H := { results := [], args := [] }

/-- 'anvillaw01.ArithAtomics': WHATEVER THE INPUT: true; the input reads as it did. -/
def arithAtomicsSpec : ChangeSpec := { name := "arithAtomics", fn := fun _ => fun
  | [d] => { results := [.lit (.bool true)], args := [d] }
  | _ => none }
def arithAtomicsRow : OpenClaim := { program := "ythnjppfgdkiaaac", sum := "76fe8fab552d58bad75bec944bb5c5794fa6c0b823d1cf26d0ede74566b21f16", func := "anvil/anvillaw01.ArithAtomics", spec := "arithAtomics", unfollowed := true, recurses := true, apart := false }
def ArithAtomicsSaid : Prop := arithAtomicsRow.holds Try.pinned (OpenSpec.ofChange arithAtomicsSpec)

/-- ITS FALSE NEIGHBOUR: 'it returns false'. Refute it at one input. -/
def arithAtomicsWrong : ChangeSpec := { name := "arithAtomics", fn := fun _ => fun
  | [d] => { results := [.lit (.bool false)], args := [d] }
  | _ => none }
def ArithAtomicsWrongFalsely : Prop := arithAtomicsRow.holds Try.pinned (OpenSpec.ofChange arithAtomicsWrong)

/-- 'anvillaw01.ArithKnows': WHATEVER THE INPUT: true; the input reads as it did. -/
def arithKnowsSpec : ChangeSpec := { name := "arithKnows", fn := fun _ => fun
  | [d] => { results := [.lit (.bool true)], args := [d] }
  | _ => none }
def arithKnowsRow : OpenClaim := { program := "ythnjppfgdkiaaac", sum := "76fe8fab552d58bad75bec944bb5c5794fa6c0b823d1cf26d0ede74566b21f16", func := "anvil/anvillaw01.ArithKnows", spec := "arithKnows", unfollowed := true, recurses := true, apart := false }
def ArithKnowsSaid : Prop := arithKnowsRow.holds Try.pinned (OpenSpec.ofChange arithKnowsSpec)

/-- ITS FALSE NEIGHBOUR: 'it returns false'. Refute it at one input. -/
def arithKnowsWrong : ChangeSpec := { name := "arithKnows", fn := fun _ => fun
  | [d] => { results := [.lit (.bool false)], args := [d] }
  | _ => none }
def ArithKnowsWrongFalsely : Prop := arithKnowsRow.holds Try.pinned (OpenSpec.ofChange arithKnowsWrong)

/-- 'anvillaw01.ArithComputes': WHATEVER THE INPUT: true; the input reads as it did. -/
def arithComputesSpec : ChangeSpec := { name := "arithComputes", fn := fun _ => fun
  | [d] => { results := [.lit (.bool true)], args := [d] }
  | _ => none }
def arithComputesRow : OpenClaim := { program := "ythnjppfgdkiaaac", sum := "76fe8fab552d58bad75bec944bb5c5794fa6c0b823d1cf26d0ede74566b21f16", func := "anvil/anvillaw01.ArithComputes", spec := "arithComputes", unfollowed := true, recurses := true, apart := false }
def ArithComputesSaid : Prop := arithComputesRow.holds Try.pinned (OpenSpec.ofChange arithComputesSpec)

/-- ITS FALSE NEIGHBOUR: 'it returns false'. Refute it at one input. -/
def arithComputesWrong : ChangeSpec := { name := "arithComputes", fn := fun _ => fun
  | [d] => { results := [.lit (.bool false)], args := [d] }
  | _ => none }
def ArithComputesWrongFalsely : Prop := arithComputesRow.holds Try.pinned (OpenSpec.ofChange arithComputesWrong)

/- THE SECOND FORM. 'bulk': how many values and letters a reading holds, each counted each time it is reached (what is shared counts as often as it is met; a slice's spare places count too). A statement '..UptoSaid' is the law's where the arguments, and the package variables that the reading takes, are together of bulk at most 1048576: NARROWER than '..Said'. Prove '..Said' where nothing that the law and all that it calls make is longer than what came in: it says more and counts as full. Else prove '..UptoSaid'. A law counts once. -/
mutual
def uptoBulk {H : Type} : DataW H → Nat
  | .lit (.string bytes) => bytes.length + 1
  | .lit _ => 1
  | .nil => 1
  | .ptr d => uptoBulk d + 1
  | .slice elems spare => uptoBulkAll elems + uptoBulkAll spare + 1
  | .agg parts => uptoBulkAll parts + 1
  | .iface _ d => uptoBulk d + 1
  | .map entries => uptoBulkEntries entries + 1
  | .held _ => 1
def uptoBulkAll {H : Type} : List (DataW H) → Nat
  | [] => 0
  | d :: r => uptoBulk d + uptoBulkAll r
def uptoBulkEntries {H : Type} : List (Lit × DataW H) → Nat
  | [] => 0
  | x :: r => uptoBulkEntry x + uptoBulkEntries r
def uptoBulkEntry {H : Type} : Lit × DataW H → Nat
  | (.string bytes, d) => bytes.length + uptoBulk d + 1
  | (_, d) => uptoBulk d + 1
 end
def uptoSmall : (H : Type) → List (DataW H) → Bool := fun _ ds => decide (uptoBulkAll ds ≤ 1048576)
def OpenSpec.upto (s : _root_.Go.ChangeSpec) : _root_.Go.OpenSpec := { _root_.Go.OpenSpec.ofChange s with cond := some uptoSmall }

/-- 'anvillaw01.ArithAtomics', WHERE WHAT IT READS IS OF BULK AT MOST 1048576: true; the input reads as it did. -/
def arithAtomicsUptoRow : OpenClaim := { program := "ythnjppfgdkiaaac", sum := "76fe8fab552d58bad75bec944bb5c5794fa6c0b823d1cf26d0ede74566b21f16", func := "anvil/anvillaw01.ArithAtomics", spec := "arithAtomics", unfollowed := true, recurses := true, apart := false, narrowed := true }
def ArithAtomicsUptoSaid : Prop := arithAtomicsUptoRow.holds Try.pinned (OpenSpec.upto arithAtomicsSpec)

/-- 'anvillaw01.ArithKnows', WHERE WHAT IT READS IS OF BULK AT MOST 1048576: true; the input reads as it did. -/
def arithKnowsUptoRow : OpenClaim := { program := "ythnjppfgdkiaaac", sum := "76fe8fab552d58bad75bec944bb5c5794fa6c0b823d1cf26d0ede74566b21f16", func := "anvil/anvillaw01.ArithKnows", spec := "arithKnows", unfollowed := true, recurses := true, apart := false, narrowed := true }
def ArithKnowsUptoSaid : Prop := arithKnowsUptoRow.holds Try.pinned (OpenSpec.upto arithKnowsSpec)

/-- 'anvillaw01.ArithComputes', WHERE WHAT IT READS IS OF BULK AT MOST 1048576: true; the input reads as it did. -/
def arithComputesUptoRow : OpenClaim := { program := "ythnjppfgdkiaaac", sum := "76fe8fab552d58bad75bec944bb5c5794fa6c0b823d1cf26d0ede74566b21f16", func := "anvil/anvillaw01.ArithComputes", spec := "arithComputes", unfollowed := true, recurses := true, apart := false, narrowed := true }
def ArithComputesUptoSaid : Prop := arithComputesUptoRow.holds Try.pinned (OpenSpec.upto arithComputesSpec)

end Rows
end Go.Proofs.Ythnjppfgdkiaaac
