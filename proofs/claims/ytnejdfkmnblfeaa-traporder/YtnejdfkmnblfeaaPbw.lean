/-
  SetAddr, SetCfg of the program and of the reference.
-/
import Derived.Test.YtnejdfkmnblfeaaPbm
namespace Go.Proofs.Ytnejdfkmnblfeaa
set_option linter.unusedVariables false
open Go.ChangeShapes Go.WideShapes Go.ChangeAt Go.RowKit Go.Deep
/-- What SetAddr leaves of Addr. -/
def sA (c : Nat → BitVec 8) (a : Nat → BitVec 64) (i : Int) (v : BitVec 64) : Nat → BitVec 64 := if aL c i then a else upd a i.toNat (pad v)
theorem aL_false {c : Nat → BitVec 8} {i : Int} (h : aL c i = false) : 0 ≤ i ∧ i < 16 := by
  by_cases hi : 0 ≤ i ∧ i < 16
  · exact hi
  · rw [aL_out _ _ hi] at h; cases h
theorem cL_false {c : Nat → BitVec 8} {i : Int} (h : cL c i = false) : 0 ≤ i ∧ i < 16 := by
  by_cases hi : 0 ≤ i ∧ i < 16
  · exact hi
  · rw [cL_out _ _ hi] at h; cases h
end Go.Proofs.Ytnejdfkmnblfeaa
