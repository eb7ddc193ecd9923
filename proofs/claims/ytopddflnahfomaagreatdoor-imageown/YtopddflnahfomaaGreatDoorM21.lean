/-
  Irm.
-/
import Derived.Test.YtopddflnahfomaaGreatDoorM03
import Derived.Deep.Cut
namespace Go.Proofs.YtopddflnahfomaaGreatDoor
set_option linter.unusedVariables false
open Go.ChangeShapes Go.WideShapes Go.ChangeAt Go.RowKit Go.Deep
theorem vl_front (b : List Int) (p m : Nat) : vl b p (m + 1) = (b.getD p 0).toNat + 256 * vl b (p + 1) m := by
  induction m with
  | zero =>
    unfold vl
    simp only [tkN, Nat.zero_add, Nat.pow_zero, Nat.mul_one, Nat.mul_zero, Nat.add_zero]
    rw [drop_getD, Nat.add_zero]
  | succ m ih =>
    have e1 : vl b p (m + 2) = vl b p (m + 1) + (b.getD (p + (m + 1)) 0).toNat * 256 ^ (m + 1) := by
      show tkN (b.drop p) (m + 1) + ((b.drop p).getD (m + 1) 0).toNat * 256 ^ (m + 1) = _
      rw [drop_getD]; rfl
    have e2 : vl b (p + 1) (m + 1) = vl b (p + 1) m + (b.getD (p + 1 + m) 0).toNat * 256 ^ m := by
      show tkN (b.drop (p + 1)) m + ((b.drop (p + 1)).getD m 0).toNat * 256 ^ m = _
      rw [drop_getD]; rfl
    rw [e1, ih, e2, show p + (m + 1) = p + 1 + m by omega, Nat.mul_add, Nat.pow_succ]
    have e3 : (b.getD (p + 1 + m) 0).toNat * (256 ^ m * 256) = 256 * ((b.getD (p + 1 + m) 0).toNat * 256 ^ m) := by rw [← Nat.mul_assoc, Nat.mul_comm]
    rw [e3]
    omega
end Go.Proofs.YtopddflnahfomaaGreatDoor
