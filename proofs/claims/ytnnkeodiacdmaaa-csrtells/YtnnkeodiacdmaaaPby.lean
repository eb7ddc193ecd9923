/-
  SetAddr, SetCfg of the reference.
-/
import Derived.Test.YtnnkeodiacdmaaaPbx
namespace Go.Proofs.Ytnnkeodiacdmaaa
set_option linter.unusedVariables false
open Go.ChangeShapes Go.WideShapes Go.ChangeAt Go.RowKit Go.Deep
theorem pcl_twice : ∀ x : BitVec 8, pcl (pcl x) = pcl x := by decide +kernel
theorem pad_twice (x : BitVec 64) : pad (pad x) = pad x := by unfold pad; rw [BitVec.and_assoc, BitVec.and_self]
theorem PC_twice (c : Nat → BitVec 8) : PC (PC c) = PC c := funext fun j => pcl_twice (c j)
theorem PA_twice (a : Nat → BitVec 64) : PA (PA a) = PA a := funext fun j => pad_twice (a j)
end Go.Proofs.Ytnnkeodiacdmaaa
