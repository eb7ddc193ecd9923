/-
  No cell of these rows narrows 'for every input' (looked for: loops, veiled, ifaces, maps, wideKeys, modest, calm, conditions, laid).
  DERIVED. THE GIVEN ROWS OF THIS SEAT. 6 by the template 'for every input the law returns true; each argument reads behind the call as it read before'; 0 by the template 'total and deterministic' (their statements: YtnnkeodiacdmaaaTotals.lean).
  GIVEN WITH THE SEED: the statements are not yours to turn. If you find one false, say at which input.
  Laid BY PROGRAM, IN A SANDBOX (cutbox-rows.mjs): the forced cells as the released guide's own fill.sh prints them over the translation 5c7f5c803a9183c1… (all of the seat's roots in one cut). By AI agents, Wed Nov 11 2026. No macro, syntax, notation, axiom, sorry.
-/
import Derived.Test.YtnnkeodiacdmaaaChecked
import GoSem.Claim
import GoSem.ClaimJoined
import GoSem.ClaimMapViews
import Derived.JoinedTies
import Derived.KernelRfl
namespace Go.Proofs.Ytnnkeodiacdmaaa
/- THE CELL 'sum', in the pinned program and in every row, IS THE sha256 OF THE DUMP (.gsa) THAT YtnnkeodiacdmaaaProg.lean LOADS. Nothing in Lean hashes anything: it is a label: what it is worth is what the hold of that sum in a sandbox is worth. -/
noncomputable def Try.pinned : Pinned := { name := "ytnnkeodiacdmaaa", sum := "5c7f5c803a9183c13e6663487b75ef6712f25be764c3a96b4dc3138a4c7d5e28", checked := Try.checked }
namespace Rows
def none {H : Type} : Left H := { results := [], args := [] }

/-- 'anvillaw09.CsrWraps': WHATEVER THE INPUT: true; the input reads as it did. -/
def csrWrapsSpec : ChangeSpec := { name := "csrWraps", fn := fun _ => fun
  | [d] => { results := [.lit (.bool true)], args := [d] }
  | _ => none }
def csrWrapsRow : OpenClaim := { program := "ytnnkeodiacdmaaa", sum := "5c7f5c803a9183c13e6663487b75ef6712f25be764c3a96b4dc3138a4c7d5e28", func := "anvil/anvillaw09.CsrWraps", spec := "csrWraps", apart := false }
def CsrWrapsSaid : Prop := csrWrapsRow.holds Try.pinned (OpenSpec.ofChange csrWrapsSpec)

/-- ITS FALSE NEIGHBOUR: 'it returns false'. Refute it at one input. -/
def csrWrapsWrong : ChangeSpec := { name := "csrWraps", fn := fun _ => fun
  | [d] => { results := [.lit (.bool false)], args := [d] }
  | _ => none }
def CsrWrapsWrongFalsely : Prop := csrWrapsRow.holds Try.pinned (OpenSpec.ofChange csrWrapsWrong)

/-- 'anvillaw09.CsrProper': WHATEVER THE INPUT: true; the input reads as it did. -/
def csrProperSpec : ChangeSpec := { name := "csrProper", fn := fun _ => fun
  | [d] => { results := [.lit (.bool true)], args := [d] }
  | _ => none }
def csrProperRow : OpenClaim := { program := "ytnnkeodiacdmaaa", sum := "5c7f5c803a9183c13e6663487b75ef6712f25be764c3a96b4dc3138a4c7d5e28", func := "anvil/anvillaw09.CsrProper", spec := "csrProper", apart := false }
def CsrProperSaid : Prop := csrProperRow.holds Try.pinned (OpenSpec.ofChange csrProperSpec)

/-- ITS FALSE NEIGHBOUR: 'it returns false'. Refute it at one input. -/
def csrProperWrong : ChangeSpec := { name := "csrProper", fn := fun _ => fun
  | [d] => { results := [.lit (.bool false)], args := [d] }
  | _ => none }
def CsrProperWrongFalsely : Prop := csrProperRow.holds Try.pinned (OpenSpec.ofChange csrProperWrong)

/-- 'anvillaw09.CsrCounts': WHATEVER THE INPUT: true; the input reads as it did. -/
def csrCountsSpec : ChangeSpec := { name := "csrCounts", fn := fun _ => fun
  | [d] => { results := [.lit (.bool true)], args := [d] }
  | _ => none }
def csrCountsRow : OpenClaim := { program := "ytnnkeodiacdmaaa", sum := "5c7f5c803a9183c13e6663487b75ef6712f25be764c3a96b4dc3138a4c7d5e28", func := "anvil/anvillaw09.CsrCounts", spec := "csrCounts", apart := false }
def CsrCountsSaid : Prop := csrCountsRow.holds Try.pinned (OpenSpec.ofChange csrCountsSpec)

/-- ITS FALSE NEIGHBOUR: 'it returns false'. Refute it at one input. -/
def csrCountsWrong : ChangeSpec := { name := "csrCounts", fn := fun _ => fun
  | [d] => { results := [.lit (.bool false)], args := [d] }
  | _ => none }
def CsrCountsWrongFalsely : Prop := csrCountsRow.holds Try.pinned (OpenSpec.ofChange csrCountsWrong)

/-- 'anvillaw09.CsrExists': WHATEVER THE INPUT: true; the input reads as it did. -/
def csrExistsSpec : ChangeSpec := { name := "csrExists", fn := fun _ => fun
  | [d] => { results := [.lit (.bool true)], args := [d] }
  | _ => none }
def csrExistsRow : OpenClaim := { program := "ytnnkeodiacdmaaa", sum := "5c7f5c803a9183c13e6663487b75ef6712f25be764c3a96b4dc3138a4c7d5e28", func := "anvil/anvillaw09.CsrExists", spec := "csrExists", apart := false }
def CsrExistsSaid : Prop := csrExistsRow.holds Try.pinned (OpenSpec.ofChange csrExistsSpec)

/-- ITS FALSE NEIGHBOUR: 'it returns false'. Refute it at one input. -/
def csrExistsWrong : ChangeSpec := { name := "csrExists", fn := fun _ => fun
  | [d] => { results := [.lit (.bool false)], args := [d] }
  | _ => none }
def CsrExistsWrongFalsely : Prop := csrExistsRow.holds Try.pinned (OpenSpec.ofChange csrExistsWrong)

/-- 'anvillaw09.CsrStays': WHATEVER THE INPUT: true; the input reads as it did. -/
def csrStaysSpec : ChangeSpec := { name := "csrStays", fn := fun _ => fun
  | [d] => { results := [.lit (.bool true)], args := [d] }
  | _ => none }
def csrStaysRow : OpenClaim := { program := "ytnnkeodiacdmaaa", sum := "5c7f5c803a9183c13e6663487b75ef6712f25be764c3a96b4dc3138a4c7d5e28", func := "anvil/anvillaw09.CsrStays", spec := "csrStays", unfollowed := true, recurses := true, apart := false }
def CsrStaysSaid : Prop := csrStaysRow.holds Try.pinned (OpenSpec.ofChange csrStaysSpec)

/-- ITS FALSE NEIGHBOUR: 'it returns false'. Refute it at one input. -/
def csrStaysWrong : ChangeSpec := { name := "csrStays", fn := fun _ => fun
  | [d] => { results := [.lit (.bool false)], args := [d] }
  | _ => none }
def CsrStaysWrongFalsely : Prop := csrStaysRow.holds Try.pinned (OpenSpec.ofChange csrStaysWrong)

/-- 'anvillaw09.CsrTells': WHATEVER THE INPUT: true; the input reads as it did. -/
def csrTellsSpec : ChangeSpec := { name := "csrTells", fn := fun _ => fun
  | [d1, d2] => { results := [.lit (.bool true)], args := [d1, d2] }
  | _ => none }
def csrTellsRow : OpenClaim := { program := "ytnnkeodiacdmaaa", sum := "5c7f5c803a9183c13e6663487b75ef6712f25be764c3a96b4dc3138a4c7d5e28", func := "anvil/anvillaw09.CsrTells", spec := "csrTells", unfollowed := true, recurses := true, apart := false }
def CsrTellsSaid : Prop := csrTellsRow.holds Try.pinned (OpenSpec.ofChange csrTellsSpec)

/-- ITS FALSE NEIGHBOUR: 'it returns false'. Refute it at one input. -/
def csrTellsWrong : ChangeSpec := { name := "csrTells", fn := fun _ => fun
  | [d1, d2] => { results := [.lit (.bool false)], args := [d1, d2] }
  | _ => none }
def CsrTellsWrongFalsely : Prop := csrTellsRow.holds Try.pinned (OpenSpec.ofChange csrTellsWrong)

/- THE SECOND FORM. 'bulk': how many values and letters a reading holds, each counted each time it is reached (what is shared counts as often as it is met; a slice's spare places count too). A statement '..UptoSaid' is the law's where the arguments, and the package variables that the reading takes, are together of bulk at most 1048576: NARROWER than '..Said'. Prove '..Said' where nothing that the law and all that it calls make is longer than what came in: it says more and counts as full. Else prove '..UptoSaid'. A law counts once. -/
mutual
def uptoBulk {H : Type} : DataW H → Nat
  | .lit (.string bytes) => bytes.length + 1
  | .lit _ => 1
  | .nil => 1
  | .ptr d => uptoBulk d + 1
  | .slice elems spare => uptoBulkAll elems + uptoBulkAll spare + 1
  | .agg parts => uptoBulkAll parts + 1
  | .iface _ d => uptoBulk d + 1
  | .map entries => uptoBulkEntries entries + 1
  | .held _ => 1
def uptoBulkAll {H : Type} : List (DataW H) → Nat
  | [] => 0
  | d :: r => uptoBulk d + uptoBulkAll r
def uptoBulkEntries {H : Type} : List (Lit × DataW H) → Nat
  | [] => 0
  | x :: r => uptoBulkEntry x + uptoBulkEntries r
def uptoBulkEntry {H : Type} : Lit × DataW H → Nat
  | (.string bytes, d) => bytes.length + uptoBulk d + 1
  | (_, d) => uptoBulk d + 1
 end
def uptoSmall : (H : Type) → List (DataW H) → Bool := fun _ ds => decide (uptoBulkAll ds ≤ 1048576)
def OpenSpec.upto (s : _root_.Go.ChangeSpec) : _root_.Go.OpenSpec := { _root_.Go.OpenSpec.ofChange s with cond := some uptoSmall }

/-- 'anvillaw09.CsrWraps', WHERE WHAT IT READS IS OF BULK AT MOST 1048576: true; the input reads as it did. -/
def csrWrapsUptoRow : OpenClaim := { program := "ytnnkeodiacdmaaa", sum := "5c7f5c803a9183c13e6663487b75ef6712f25be764c3a96b4dc3138a4c7d5e28", func := "anvil/anvillaw09.CsrWraps", spec := "csrWraps", apart := false, narrowed := true }
def CsrWrapsUptoSaid : Prop := csrWrapsUptoRow.holds Try.pinned (OpenSpec.upto csrWrapsSpec)

/-- 'anvillaw09.CsrProper', WHERE WHAT IT READS IS OF BULK AT MOST 1048576: true; the input reads as it did. -/
def csrProperUptoRow : OpenClaim := { program := "ytnnkeodiacdmaaa", sum := "5c7f5c803a9183c13e6663487b75ef6712f25be764c3a96b4dc3138a4c7d5e28", func := "anvil/anvillaw09.CsrProper", spec := "csrProper", apart := false, narrowed := true }
def CsrProperUptoSaid : Prop := csrProperUptoRow.holds Try.pinned (OpenSpec.upto csrProperSpec)

/-- 'anvillaw09.CsrCounts', WHERE WHAT IT READS IS OF BULK AT MOST 1048576: true; the input reads as it did. -/
def csrCountsUptoRow : OpenClaim := { program := "ytnnkeodiacdmaaa", sum := "5c7f5c803a9183c13e6663487b75ef6712f25be764c3a96b4dc3138a4c7d5e28", func := "anvil/anvillaw09.CsrCounts", spec := "csrCounts", apart := false, narrowed := true }
def CsrCountsUptoSaid : Prop := csrCountsUptoRow.holds Try.pinned (OpenSpec.upto csrCountsSpec)

/-- 'anvillaw09.CsrExists', WHERE WHAT IT READS IS OF BULK AT MOST 1048576: true; the input reads as it did. -/
def csrExistsUptoRow : OpenClaim := { program := "ytnnkeodiacdmaaa", sum := "5c7f5c803a9183c13e6663487b75ef6712f25be764c3a96b4dc3138a4c7d5e28", func := "anvil/anvillaw09.CsrExists", spec := "csrExists", apart := false, narrowed := true }
def CsrExistsUptoSaid : Prop := csrExistsUptoRow.holds Try.pinned (OpenSpec.upto csrExistsSpec)

/-- 'anvillaw09.CsrStays', WHERE WHAT IT READS IS OF BULK AT MOST 1048576: true; the input reads as it did. -/
def csrStaysUptoRow : OpenClaim := { program := "ytnnkeodiacdmaaa", sum := "5c7f5c803a9183c13e6663487b75ef6712f25be764c3a96b4dc3138a4c7d5e28", func := "anvil/anvillaw09.CsrStays", spec := "csrStays", unfollowed := true, recurses := true, apart := false, narrowed := true }
def CsrStaysUptoSaid : Prop := csrStaysUptoRow.holds Try.pinned (OpenSpec.upto csrStaysSpec)

/-- 'anvillaw09.CsrTells', WHERE WHAT IT READS IS OF BULK AT MOST 1048576: true; the input reads as it did. -/
def csrTellsUptoRow : OpenClaim := { program := "ytnnkeodiacdmaaa", sum := "5c7f5c803a9183c13e6663487b75ef6712f25be764c3a96b4dc3138a4c7d5e28", func := "anvil/anvillaw09.CsrTells", spec := "csrTells", unfollowed := true, recurses := true, apart := false, narrowed := true }
def CsrTellsUptoSaid : Prop := csrTellsUptoRow.holds Try.pinned (OpenSpec.upto csrTellsSpec)

end Rows
end Go.Proofs.Ytnnkeodiacdmaaa
