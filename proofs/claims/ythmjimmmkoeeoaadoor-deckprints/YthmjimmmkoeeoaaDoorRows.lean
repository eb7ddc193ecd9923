/-
  NARROWER THAN 'FOR EVERY INPUT', by the rows' own cells (each row's printed sentence says how): DeckPrints: laid.
  DERIVED. THE GIVEN ROWS OF THIS SEAT. 1 by the template 'for every input the law returns true; each argument reads behind the call as it read before'; 0 by the template 'total and deterministic' (their statements: YthmjimmmkoeeoaaDoorTotals.lean).
  GIVEN WITH THE SEED: the statements are not yours to turn. If you find one false, say at which input.
  Laid BY PROGRAM, IN A SANDBOX (cutbox-rows.mjs): the forced cells as the released guide's own fill.sh prints them over the translation b5cf7939709c2817… (all of the seat's roots in one cut). By AI agents, Wed Nov 11 2026. No macro, syntax, notation, axiom, sorry.
-/
import Derived.Test.YthmjimmmkoeeoaaDoorChecked
import GoSem.Claim
import GoSem.ClaimJoined
import GoSem.ClaimMapViews
import Derived.JoinedTies
import Derived.KernelRfl
namespace Go.Proofs.YthmjimmmkoeeoaaDoor
/- THE CELL 'sum', in the pinned program and in every row, IS THE sha256 OF THE DUMP (.gsa) THAT YthmjimmmkoeeoaaDoorProg.lean LOADS. Nothing in Lean hashes anything: it is a label: what it is worth is what the hold of that sum in a sandbox is worth. -/
noncomputable def Tryd.pinned : Pinned := { name := "ythmjimmmkoeeoaadoor", sum := "b5cf7939709c281760c709999106e03b959741d6ad3902e102e1ced25f9e4ea8", checked := Tryd.checked }
namespace Rows
def none {H : Type} : Left H := { results := [], args := [] }

/- WHAT THE LISTED PACKAGE-LEVEL VARIABLES READ AS WHEN THE CALL BEGINS. Each datum BY PROGRAM (the guide's laid-datum.mjs) off the statement by which the dump's own 'gosem.cut.vars' lays the variable. In a bare row this is a premise. The card (YthmjimmmkoeeoaaDoorCards.lean) ties it to the program's text. -/
def laid_math_bits_deBruijn32tab {H : Type} : DataW H := .agg [.lit (.int .u8 0), .lit (.int .u8 1), .lit (.int .u8 28), .lit (.int .u8 2), .lit (.int .u8 29), .lit (.int .u8 14), .lit (.int .u8 24), .lit (.int .u8 3), .lit (.int .u8 30), .lit (.int .u8 22), .lit (.int .u8 20), .lit (.int .u8 15), .lit (.int .u8 25), .lit (.int .u8 17), .lit (.int .u8 4), .lit (.int .u8 8), .lit (.int .u8 31), .lit (.int .u8 27), .lit (.int .u8 13), .lit (.int .u8 23), .lit (.int .u8 21), .lit (.int .u8 19), .lit (.int .u8 16), .lit (.int .u8 7), .lit (.int .u8 26), .lit (.int .u8 12), .lit (.int .u8 18), .lit (.int .u8 6), .lit (.int .u8 11), .lit (.int .u8 5), .lit (.int .u8 10), .lit (.int .u8 9)]
def laid_math_bits_deBruijn64tab {H : Type} : DataW H := .agg [.lit (.int .u8 0), .lit (.int .u8 1), .lit (.int .u8 56), .lit (.int .u8 2), .lit (.int .u8 57), .lit (.int .u8 49), .lit (.int .u8 28), .lit (.int .u8 3), .lit (.int .u8 61), .lit (.int .u8 58), .lit (.int .u8 42), .lit (.int .u8 50), .lit (.int .u8 38), .lit (.int .u8 29), .lit (.int .u8 17), .lit (.int .u8 4), .lit (.int .u8 62), .lit (.int .u8 47), .lit (.int .u8 59), .lit (.int .u8 36), .lit (.int .u8 45), .lit (.int .u8 43), .lit (.int .u8 51), .lit (.int .u8 22), .lit (.int .u8 53), .lit (.int .u8 39), .lit (.int .u8 33), .lit (.int .u8 30), .lit (.int .u8 24), .lit (.int .u8 18), .lit (.int .u8 12), .lit (.int .u8 5), .lit (.int .u8 63), .lit (.int .u8 55), .lit (.int .u8 48), .lit (.int .u8 27), .lit (.int .u8 60), .lit (.int .u8 41), .lit (.int .u8 37), .lit (.int .u8 16), .lit (.int .u8 46), .lit (.int .u8 35), .lit (.int .u8 44), .lit (.int .u8 21), .lit (.int .u8 52), .lit (.int .u8 32), .lit (.int .u8 23), .lit (.int .u8 11), .lit (.int .u8 54), .lit (.int .u8 26), .lit (.int .u8 40), .lit (.int .u8 15), .lit (.int .u8 34), .lit (.int .u8 20), .lit (.int .u8 31), .lit (.int .u8 10), .lit (.int .u8 25), .lit (.int .u8 14), .lit (.int .u8 19), .lit (.int .u8 9), .lit (.int .u8 13), .lit (.int .u8 8), .lit (.int .u8 7), .lit (.int .u8 6)]
def laid_internal_strconv_uint64pow10 {H : Type} : DataW H := .agg [.lit (.int .u64 1), .lit (.int .u64 10), .lit (.int .u64 100), .lit (.int .u64 1000), .lit (.int .u64 10000), .lit (.int .u64 100000), .lit (.int .u64 1000000), .lit (.int .u64 10000000), .lit (.int .u64 100000000), .lit (.int .u64 1000000000), .lit (.int .u64 10000000000), .lit (.int .u64 100000000000), .lit (.int .u64 1000000000000), .lit (.int .u64 10000000000000), .lit (.int .u64 100000000000000), .lit (.int .u64 1000000000000000), .lit (.int .u64 10000000000000000), .lit (.int .u64 100000000000000000), .lit (.int .u64 1000000000000000000), .lit (.int .u64 10000000000000000000)]
def laid_anvil_anvilref07_regs {H : Type} : DataW H := .agg [.lit (.string [122, 101, 114, 111]), .lit (.string [114, 97]), .lit (.string [115, 112]), .lit (.string [103, 112]), .lit (.string [116, 112]), .lit (.string [116, 48]), .lit (.string [116, 49]), .lit (.string [116, 50]), .lit (.string [115, 48]), .lit (.string [115, 49]), .lit (.string [97, 48]), .lit (.string [97, 49]), .lit (.string [97, 50]), .lit (.string [97, 51]), .lit (.string [97, 52]), .lit (.string [97, 53]), .lit (.string [97, 54]), .lit (.string [97, 55]), .lit (.string [115, 50]), .lit (.string [115, 51]), .lit (.string [115, 52]), .lit (.string [115, 53]), .lit (.string [115, 54]), .lit (.string [115, 55]), .lit (.string [115, 56]), .lit (.string [115, 57]), .lit (.string [115, 49, 48]), .lit (.string [115, 49, 49]), .lit (.string [116, 51]), .lit (.string [116, 52]), .lit (.string [116, 53]), .lit (.string [116, 54])]
def laid_anvil_anvilref07_csrNames {H : Type} : DataW H := .agg [.lit (.string [109, 118, 101, 110, 100, 111, 114, 105, 100]), .lit (.string [109, 97, 114, 99, 104, 105, 100]), .lit (.string [109, 105, 109, 112, 105, 100]), .lit (.string [109, 104, 97, 114, 116, 105, 100]), .lit (.string [109, 99, 111, 110, 102, 105, 103, 112, 116, 114]), .lit (.string [109, 115, 116, 97, 116, 117, 115]), .lit (.string [109, 105, 115, 97]), .lit (.string [109, 105, 101]), .lit (.string [109, 116, 118, 101, 99]), .lit (.string [109, 99, 111, 117, 110, 116, 101, 114, 101, 110]), .lit (.string [109, 101, 110, 118, 99, 102, 103]), .lit (.string [109, 99, 111, 117, 110, 116, 105, 110, 104, 105, 98, 105, 116]), .lit (.string [109, 115, 99, 114, 97, 116, 99, 104]), .lit (.string [109, 101, 112, 99]), .lit (.string [109, 99, 97, 117, 115, 101]), .lit (.string [109, 116, 118, 97, 108]), .lit (.string [109, 105, 112]), .lit (.string [112, 109, 112, 99, 102, 103, 48]), .lit (.string [112, 109, 112, 99, 102, 103, 50]), .lit (.string [109, 99, 121, 99, 108, 101]), .lit (.string [109, 105, 110, 115, 116, 114, 101, 116]), .lit (.string [99, 121, 99, 108, 101]), .lit (.string [116, 105, 109, 101]), .lit (.string [105, 110, 115, 116, 114, 101, 116]), .lit (.string []), .lit (.string [])]
def laid_anvil_anvilref07_csrNumbers {H : Type} : DataW H := .agg [.lit (.int .i64 3857), .lit (.int .i64 3858), .lit (.int .i64 3859), .lit (.int .i64 3860), .lit (.int .i64 3861), .lit (.int .i64 768), .lit (.int .i64 769), .lit (.int .i64 772), .lit (.int .i64 773), .lit (.int .i64 774), .lit (.int .i64 778), .lit (.int .i64 800), .lit (.int .i64 832), .lit (.int .i64 833), .lit (.int .i64 834), .lit (.int .i64 835), .lit (.int .i64 836), .lit (.int .i64 928), .lit (.int .i64 930), .lit (.int .i64 2816), .lit (.int .i64 2818), .lit (.int .i64 3072), .lit (.int .i64 3073), .lit (.int .i64 3074), .lit (.int .i64 (-1)), .lit (.int .i64 (-1))]
def laid_anvil_anvilref14_Csrs {H : Type} : DataW H := .agg [.lit (.int .i64 768), .lit (.int .i64 773), .lit (.int .i64 772), .lit (.int .i64 774), .lit (.int .i64 800), .lit (.int .i64 778), .lit (.int .i64 832), .lit (.int .i64 833), .lit (.int .i64 834), .lit (.int .i64 835), .lit (.int .i64 2816), .lit (.int .i64 2818)]

/-- 'anvillaw14.DeckPrints': WHATEVER THE INPUT: true; the input reads as it did. -/
def deckPrintsSpec : ChangeSpec := { name := "deckPrints", fn := fun _ => fun
  | [d] => { results := [.lit (.bool true)], args := [d] }
  | _ => none }
def deckPrintsRow : OpenClaim := { program := "ythmjimmmkoeeoaadoor", sum := "b5cf7939709c281760c709999106e03b959741d6ad3902e102e1ced25f9e4ea8", func := "anvil/anvillaw14.DeckPrints", spec := "deckPrints", inPlace := ["internal/abi.NoEscape", "internal/bytealg.MakeNoZero"], recurses := true, named := ["internal/strconv.uint64pow10", "math/bits.deBruijn32tab", "math/bits.deBruijn64tab", "anvil/anvilref14.Csrs", "anvil/anvilref07.regs", "anvil/anvilref07.csrNumbers", "anvil/anvilref07.csrNames"], apart := false, laid := [("math/bits.deBruijn32tab", laid_math_bits_deBruijn32tab), ("math/bits.deBruijn64tab", laid_math_bits_deBruijn64tab), ("internal/strconv.uint64pow10", laid_internal_strconv_uint64pow10), ("anvil/anvilref07.regs", laid_anvil_anvilref07_regs), ("anvil/anvilref07.csrNames", laid_anvil_anvilref07_csrNames), ("anvil/anvilref07.csrNumbers", laid_anvil_anvilref07_csrNumbers), ("anvil/anvilref14.Csrs", laid_anvil_anvilref14_Csrs)] }
def DeckPrintsSaid : Prop := deckPrintsRow.holds Tryd.pinned (OpenSpec.ofChange deckPrintsSpec)

/-- ITS FALSE NEIGHBOUR: 'it returns false'. Refute it at one input. -/
def deckPrintsWrong : ChangeSpec := { name := "deckPrints", fn := fun _ => fun
  | [d] => { results := [.lit (.bool false)], args := [d] }
  | _ => none }
def DeckPrintsWrongFalsely : Prop := deckPrintsRow.holds Tryd.pinned (OpenSpec.ofChange deckPrintsWrong)

/- THE SECOND FORM. 'bulk': how many values and letters a reading holds, each counted each time it is reached (what is shared counts as often as it is met; a slice's spare places count too). A statement '..UptoSaid' is the law's where the arguments, and the package variables that the reading takes, are together of bulk at most 1048576: NARROWER than '..Said'. Prove '..Said' where nothing that the law and all that it calls make is longer than what came in: it says more and counts as full. Else prove '..UptoSaid'. A law counts once. -/
mutual
def uptoBulk {H : Type} : DataW H → Nat
  | .lit (.string bytes) => bytes.length + 1
  | .lit _ => 1
  | .nil => 1
  | .ptr d => uptoBulk d + 1
  | .slice elems spare => uptoBulkAll elems + uptoBulkAll spare + 1
  | .agg parts => uptoBulkAll parts + 1
  | .iface _ d => uptoBulk d + 1
  | .map entries => uptoBulkEntries entries + 1
  | .held _ => 1
def uptoBulkAll {H : Type} : List (DataW H) → Nat
  | [] => 0
  | d :: r => uptoBulk d + uptoBulkAll r
def uptoBulkEntries {H : Type} : List (Lit × DataW H) → Nat
  | [] => 0
  | x :: r => uptoBulkEntry x + uptoBulkEntries r
def uptoBulkEntry {H : Type} : Lit × DataW H → Nat
  | (.string bytes, d) => bytes.length + uptoBulk d + 1
  | (_, d) => uptoBulk d + 1
 end
def uptoSmall : (H : Type) → List (DataW H) → Bool := fun _ ds => decide (uptoBulkAll ds ≤ 1048576)
def OpenSpec.upto (s : _root_.Go.ChangeSpec) : _root_.Go.OpenSpec := { _root_.Go.OpenSpec.ofChange s with cond := some uptoSmall }

/-- 'anvillaw14.DeckPrints', WHERE WHAT IT READS IS OF BULK AT MOST 1048576: true; the input reads as it did. -/
def deckPrintsUptoRow : OpenClaim := { program := "ythmjimmmkoeeoaadoor", sum := "b5cf7939709c281760c709999106e03b959741d6ad3902e102e1ced25f9e4ea8", func := "anvil/anvillaw14.DeckPrints", spec := "deckPrints", inPlace := ["internal/abi.NoEscape", "internal/bytealg.MakeNoZero"], recurses := true, named := ["internal/strconv.uint64pow10", "math/bits.deBruijn32tab", "math/bits.deBruijn64tab", "anvil/anvilref14.Csrs", "anvil/anvilref07.regs", "anvil/anvilref07.csrNumbers", "anvil/anvilref07.csrNames"], apart := false, laid := [("math/bits.deBruijn32tab", laid_math_bits_deBruijn32tab), ("math/bits.deBruijn64tab", laid_math_bits_deBruijn64tab), ("internal/strconv.uint64pow10", laid_internal_strconv_uint64pow10), ("anvil/anvilref07.regs", laid_anvil_anvilref07_regs), ("anvil/anvilref07.csrNames", laid_anvil_anvilref07_csrNames), ("anvil/anvilref07.csrNumbers", laid_anvil_anvilref07_csrNumbers), ("anvil/anvilref14.Csrs", laid_anvil_anvilref14_Csrs)], narrowed := true }
def DeckPrintsUptoSaid : Prop := deckPrintsUptoRow.holds Tryd.pinned (OpenSpec.upto deckPrintsSpec)

end Rows
end Go.Proofs.YthmjimmmkoeeoaaDoor
