/-
  Span, held, match, Match of the program.
-/
import Derived.Test.YtckgjfkodgeagacDoorPsc
import Derived.OwnWalk
namespace Go.Proofs.YtckgjfkodgeagacDoor
set_option linter.unusedVariables false
open Go.ChangeShapes Go.WideShapes Go.ChangeAt Go.RowKit Go.Deep
theorem PA_lt (a : Nat → BitVec 64) : ∀ j, (PA a j).toNat < 2 ^ 54 := fun j => pad_lt (a j)
theorem below_drewN {B : Nat} {w w' : World} (h : Below B w w') (n : Nat) : Below B w (w'.drewN n) := ⟨h.os, h.tape, h.output, h.size, h.block⟩
/-- Span's answer. -/
def spI (c : Nat → BitVec 8) (a : Nat → BitVec 64) (i : Int) : Option (BitVec 64 × BitVec 64) := if 0 ≤ i ∧ i < 16 then spn c a i.toNat else none
def sp3 (o : Option (BitVec 64 × BitVec 64)) : Value := .tuple #[.int .u64 (n64 (sF o)), .int .u64 (n64 (sL o)), .bool o.isSome]
end Go.Proofs.YtckgjfkodgeagacDoor
