/-
  No cell of these rows narrows 'for every input' (looked for: loops, veiled, ifaces, maps, wideKeys, modest, calm, conditions, laid).
  DERIVED. THE GIVEN ROWS OF THIS SEAT. 6 by the template 'for every input the law returns true; each argument reads behind the call as it read before'; 0 by the template 'total and deterministic' (their statements: YthnjppfgdkiaaabTotals.lean).
  GIVEN WITH THE SEED: the statements are not yours to turn. If you find one false, say at which input.
  Laid BY PROGRAM, IN A SANDBOX (cutbox-rows.mjs): the forced cells as the released guide's own fill.sh prints them over the translation 67b7712eab2e3df5… (all of the seat's roots in one cut). By AI agents, Wed Nov 11 2026. No macro, syntax, notation, axiom, sorry.
-/
import Derived.Test.YthnjppfgdkiaaabChecked
import GoSem.Claim
import GoSem.ClaimJoined
import GoSem.ClaimMapViews
import Derived.JoinedTies
import Derived.KernelRfl
namespace Go.Proofs.Ythnjppfgdkiaaab
/- THE CELL 'sum', in the pinned program and in every row, IS THE sha256 OF THE DUMP (.gsa) THAT YthnjppfgdkiaaabProg.lean LOADS. Nothing in Lean hashes anything: it is a label: what it is worth is what the hold of that sum in a sandbox is worth. -/
noncomputable def Try.pinned : Pinned := { name := "ythnjppfgdkiaaab", sum := "67b7712eab2e3df5a91faf0a214a8878adf002e9ac17f1357fd1d094a1dc8bbb", checked := Try.checked }
namespace Rows
def none {H : Type} : Left H := { results := [], args := [] }

/-- 'anvillaw01.ArithImmediates': WHATEVER THE INPUT: true; the input reads as it did. -/
def arithImmediatesSpec : ChangeSpec := { name := "arithImmediates", fn := fun _ => fun
  | [d] => { results := [.lit (.bool true)], args := [d] }
  | _ => none }
def arithImmediatesRow : OpenClaim := { program := "ythnjppfgdkiaaab", sum := "67b7712eab2e3df5a91faf0a214a8878adf002e9ac17f1357fd1d094a1dc8bbb", func := "anvil/anvillaw01.ArithImmediates", spec := "arithImmediates", unfollowed := true, recurses := true, apart := false }
def ArithImmediatesSaid : Prop := arithImmediatesRow.holds Try.pinned (OpenSpec.ofChange arithImmediatesSpec)

/-- ITS FALSE NEIGHBOUR: 'it returns false'. Refute it at one input. -/
def arithImmediatesWrong : ChangeSpec := { name := "arithImmediates", fn := fun _ => fun
  | [d] => { results := [.lit (.bool false)], args := [d] }
  | _ => none }
def ArithImmediatesWrongFalsely : Prop := arithImmediatesRow.holds Try.pinned (OpenSpec.ofChange arithImmediatesWrong)

/-- 'anvillaw01.ArithHalves': WHATEVER THE INPUT: true; the input reads as it did. -/
def arithHalvesSpec : ChangeSpec := { name := "arithHalves", fn := fun _ => fun
  | [d] => { results := [.lit (.bool true)], args := [d] }
  | _ => none }
def arithHalvesRow : OpenClaim := { program := "ythnjppfgdkiaaab", sum := "67b7712eab2e3df5a91faf0a214a8878adf002e9ac17f1357fd1d094a1dc8bbb", func := "anvil/anvillaw01.ArithHalves", spec := "arithHalves", unfollowed := true, recurses := true, apart := false }
def ArithHalvesSaid : Prop := arithHalvesRow.holds Try.pinned (OpenSpec.ofChange arithHalvesSpec)

/-- ITS FALSE NEIGHBOUR: 'it returns false'. Refute it at one input. -/
def arithHalvesWrong : ChangeSpec := { name := "arithHalves", fn := fun _ => fun
  | [d] => { results := [.lit (.bool false)], args := [d] }
  | _ => none }
def ArithHalvesWrongFalsely : Prop := arithHalvesRow.holds Try.pinned (OpenSpec.ofChange arithHalvesWrong)

/-- 'anvillaw01.ArithShifts': WHATEVER THE INPUT: true; the input reads as it did. -/
def arithShiftsSpec : ChangeSpec := { name := "arithShifts", fn := fun _ => fun
  | [d] => { results := [.lit (.bool true)], args := [d] }
  | _ => none }
def arithShiftsRow : OpenClaim := { program := "ythnjppfgdkiaaab", sum := "67b7712eab2e3df5a91faf0a214a8878adf002e9ac17f1357fd1d094a1dc8bbb", func := "anvil/anvillaw01.ArithShifts", spec := "arithShifts", unfollowed := true, recurses := true, apart := false }
def ArithShiftsSaid : Prop := arithShiftsRow.holds Try.pinned (OpenSpec.ofChange arithShiftsSpec)

/-- ITS FALSE NEIGHBOUR: 'it returns false'. Refute it at one input. -/
def arithShiftsWrong : ChangeSpec := { name := "arithShifts", fn := fun _ => fun
  | [d] => { results := [.lit (.bool false)], args := [d] }
  | _ => none }
def ArithShiftsWrongFalsely : Prop := arithShiftsRow.holds Try.pinned (OpenSpec.ofChange arithShiftsWrong)

/-- 'anvillaw01.ArithWhole': WHATEVER THE INPUT: true; the input reads as it did. -/
def arithWholeSpec : ChangeSpec := { name := "arithWhole", fn := fun _ => fun
  | [d] => { results := [.lit (.bool true)], args := [d] }
  | _ => none }
def arithWholeRow : OpenClaim := { program := "ythnjppfgdkiaaab", sum := "67b7712eab2e3df5a91faf0a214a8878adf002e9ac17f1357fd1d094a1dc8bbb", func := "anvil/anvillaw01.ArithWhole", spec := "arithWhole", unfollowed := true, recurses := true, apart := false }
def ArithWholeSaid : Prop := arithWholeRow.holds Try.pinned (OpenSpec.ofChange arithWholeSpec)

/-- ITS FALSE NEIGHBOUR: 'it returns false'. Refute it at one input. -/
def arithWholeWrong : ChangeSpec := { name := "arithWhole", fn := fun _ => fun
  | [d] => { results := [.lit (.bool false)], args := [d] }
  | _ => none }
def ArithWholeWrongFalsely : Prop := arithWholeRow.holds Try.pinned (OpenSpec.ofChange arithWholeWrong)

/-- 'anvillaw01.ArithDivides': WHATEVER THE INPUT: true; the input reads as it did. -/
def arithDividesSpec : ChangeSpec := { name := "arithDivides", fn := fun _ => fun
  | [d] => { results := [.lit (.bool true)], args := [d] }
  | _ => none }
def arithDividesRow : OpenClaim := { program := "ythnjppfgdkiaaab", sum := "67b7712eab2e3df5a91faf0a214a8878adf002e9ac17f1357fd1d094a1dc8bbb", func := "anvil/anvillaw01.ArithDivides", spec := "arithDivides", unfollowed := true, recurses := true, apart := false }
def ArithDividesSaid : Prop := arithDividesRow.holds Try.pinned (OpenSpec.ofChange arithDividesSpec)

/-- ITS FALSE NEIGHBOUR: 'it returns false'. Refute it at one input. -/
def arithDividesWrong : ChangeSpec := { name := "arithDivides", fn := fun _ => fun
  | [d] => { results := [.lit (.bool false)], args := [d] }
  | _ => none }
def ArithDividesWrongFalsely : Prop := arithDividesRow.holds Try.pinned (OpenSpec.ofChange arithDividesWrong)

/-- 'anvillaw01.ArithOrders': WHATEVER THE INPUT: true; the input reads as it did. -/
def arithOrdersSpec : ChangeSpec := { name := "arithOrders", fn := fun _ => fun
  | [d] => { results := [.lit (.bool true)], args := [d] }
  | _ => none }
def arithOrdersRow : OpenClaim := { program := "ythnjppfgdkiaaab", sum := "67b7712eab2e3df5a91faf0a214a8878adf002e9ac17f1357fd1d094a1dc8bbb", func := "anvil/anvillaw01.ArithOrders", spec := "arithOrders", unfollowed := true, recurses := true, apart := false }
def ArithOrdersSaid : Prop := arithOrdersRow.holds Try.pinned (OpenSpec.ofChange arithOrdersSpec)

/-- ITS FALSE NEIGHBOUR: 'it returns false'. Refute it at one input. -/
def arithOrdersWrong : ChangeSpec := { name := "arithOrders", fn := fun _ => fun
  | [d] => { results := [.lit (.bool false)], args := [d] }
  | _ => none }
def ArithOrdersWrongFalsely : Prop := arithOrdersRow.holds Try.pinned (OpenSpec.ofChange arithOrdersWrong)

/- THE SECOND FORM. 'bulk': how many values and letters a reading holds, each counted each time it is reached (what is shared counts as often as it is met; a slice's spare places count too). A statement '..UptoSaid' is the law's where the arguments, and the package variables that the reading takes, are together of bulk at most 1048576: NARROWER than '..Said'. Prove '..Said' where nothing that the law and all that it calls make is longer than what came in: it says more and counts as full. Else prove '..UptoSaid'. A law counts once. -/
mutual
def uptoBulk {H : Type} : DataW H → Nat
  | .lit (.string bytes) => bytes.length + 1
  | .lit _ => 1
  | .nil => 1
  | .ptr d => uptoBulk d + 1
  | .slice elems spare => uptoBulkAll elems + uptoBulkAll spare + 1
  | .agg parts => uptoBulkAll parts + 1
  | .iface _ d => uptoBulk d + 1
  | .map entries => uptoBulkEntries entries + 1
  | .held _ => 1
def uptoBulkAll {H : Type} : List (DataW H) → Nat
  | [] => 0
  | d :: r => uptoBulk d + uptoBulkAll r
def uptoBulkEntries {H : Type} : List (Lit × DataW H) → Nat
  | [] => 0
  | x :: r => uptoBulkEntry x + uptoBulkEntries r
def uptoBulkEntry {H : Type} : Lit × DataW H → Nat
  | (.string bytes, d) => bytes.length + uptoBulk d + 1
  | (_, d) => uptoBulk d + 1
 end
def uptoSmall : (H : Type) → List (DataW H) → Bool := fun _ ds => decide (uptoBulkAll ds ≤ 1048576)
def OpenSpec.upto (s : _root_.Go.ChangeSpec) : _root_.Go.OpenSpec := { _root_.Go.OpenSpec.ofChange s with cond := some uptoSmall }

/-- 'anvillaw01.ArithImmediates', WHERE WHAT IT READS IS OF BULK AT MOST 1048576: true; the input reads as it did. -/
def arithImmediatesUptoRow : OpenClaim := { program := "ythnjppfgdkiaaab", sum := "67b7712eab2e3df5a91faf0a214a8878adf002e9ac17f1357fd1d094a1dc8bbb", func := "anvil/anvillaw01.ArithImmediates", spec := "arithImmediates", unfollowed := true, recurses := true, apart := false, narrowed := true }
def ArithImmediatesUptoSaid : Prop := arithImmediatesUptoRow.holds Try.pinned (OpenSpec.upto arithImmediatesSpec)

/-- 'anvillaw01.ArithHalves', WHERE WHAT IT READS IS OF BULK AT MOST 1048576: true; the input reads as it did. -/
def arithHalvesUptoRow : OpenClaim := { program := "ythnjppfgdkiaaab", sum := "67b7712eab2e3df5a91faf0a214a8878adf002e9ac17f1357fd1d094a1dc8bbb", func := "anvil/anvillaw01.ArithHalves", spec := "arithHalves", unfollowed := true, recurses := true, apart := false, narrowed := true }
def ArithHalvesUptoSaid : Prop := arithHalvesUptoRow.holds Try.pinned (OpenSpec.upto arithHalvesSpec)

/-- 'anvillaw01.ArithShifts', WHERE WHAT IT READS IS OF BULK AT MOST 1048576: true; the input reads as it did. -/
def arithShiftsUptoRow : OpenClaim := { program := "ythnjppfgdkiaaab", sum := "67b7712eab2e3df5a91faf0a214a8878adf002e9ac17f1357fd1d094a1dc8bbb", func := "anvil/anvillaw01.ArithShifts", spec := "arithShifts", unfollowed := true, recurses := true, apart := false, narrowed := true }
def ArithShiftsUptoSaid : Prop := arithShiftsUptoRow.holds Try.pinned (OpenSpec.upto arithShiftsSpec)

/-- 'anvillaw01.ArithWhole', WHERE WHAT IT READS IS OF BULK AT MOST 1048576: true; the input reads as it did. -/
def arithWholeUptoRow : OpenClaim := { program := "ythnjppfgdkiaaab", sum := "67b7712eab2e3df5a91faf0a214a8878adf002e9ac17f1357fd1d094a1dc8bbb", func := "anvil/anvillaw01.ArithWhole", spec := "arithWhole", unfollowed := true, recurses := true, apart := false, narrowed := true }
def ArithWholeUptoSaid : Prop := arithWholeUptoRow.holds Try.pinned (OpenSpec.upto arithWholeSpec)

/-- 'anvillaw01.ArithDivides', WHERE WHAT IT READS IS OF BULK AT MOST 1048576: true; the input reads as it did. -/
def arithDividesUptoRow : OpenClaim := { program := "ythnjppfgdkiaaab", sum := "67b7712eab2e3df5a91faf0a214a8878adf002e9ac17f1357fd1d094a1dc8bbb", func := "anvil/anvillaw01.ArithDivides", spec := "arithDivides", unfollowed := true, recurses := true, apart := false, narrowed := true }
def ArithDividesUptoSaid : Prop := arithDividesUptoRow.holds Try.pinned (OpenSpec.upto arithDividesSpec)

/-- 'anvillaw01.ArithOrders', WHERE WHAT IT READS IS OF BULK AT MOST 1048576: true; the input reads as it did. -/
def arithOrdersUptoRow : OpenClaim := { program := "ythnjppfgdkiaaab", sum := "67b7712eab2e3df5a91faf0a214a8878adf002e9ac17f1357fd1d094a1dc8bbb", func := "anvil/anvillaw01.ArithOrders", spec := "arithOrders", unfollowed := true, recurses := true, apart := false, narrowed := true }
def ArithOrdersUptoSaid : Prop := arithOrdersUptoRow.holds Try.pinned (OpenSpec.upto arithOrdersSpec)

end Rows
end Go.Proofs.Ythnjppfgdkiaaab
