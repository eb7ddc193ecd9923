/-
  Holds, Match of the reference.
-/
import Derived.Test.YtonfobfhdmejkaaDoorPsf
import Derived.Test.YtonfobfhdmejkaaDoorPsg
namespace Go.Proofs.YtonfobfhdmejkaaDoor
set_option linter.unusedVariables false
open Go.ChangeShapes Go.WideShapes Go.ChangeAt Go.RowKit Go.Deep
/-- Whether an entry has a byte. -/
def hdB (c : Nat → BitVec 8) (a : Nat → BitVec 64) (k : Nat) (x : BitVec 64) : Bool := match spn c a k with | none => false | some (f, l) => inR f l x
theorem hn_zero (c : Nat → BitVec 8) (a : Nat → BitVec 64) (ad : BitVec 64) (k : Nat) : hn c a ad 0 k = 0 := by unfold hn; split <;> rfl
theorem hn_succ (c : Nat → BitVec 8) (a : Nat → BitVec 64) (ad : BitVec 64) (j k : Nat) : hn c a ad (j + 1) k = hn c a ad j k + (if hdB c a k (ad + BitVec.ofNat 64 j) = true then 1 else 0) := by
  unfold hn hdB
  cases spn c a k with
  | none => rfl
  | some fl => rfl
theorem hn_le (c : Nat → BitVec 8) (a : Nat → BitVec 64) (ad : BitVec 64) (j k : Nat) : hn c a ad j k ≤ j := by
  unfold hn; split
  · omega
  · exact hcn_le _ _ _ _
end Go.Proofs.YtonfobfhdmejkaaDoor
