/-
  Addrs with ones below: facts for PmpShapes.
-/
import Derived.Test.YtonfobfhdmejkaaDoorPma
namespace Go.Proofs.YtonfobfhdmejkaaDoor
set_option linter.unusedVariables false
open Go.ChangeShapes Go.WideShapes Go.ChangeAt Go.RowKit Go.Deep
theorem odd_pow {n m r s : Nat} (h : 2 ^ n * (2 * r + 1) = 2 ^ m * (2 * s + 1)) : n ≤ m := by
  apply Nat.le_of_not_lt
  intro hlt
  obtain ⟨d, rfl⟩ : ∃ d, n = m + (d + 1) := ⟨n - m - 1, by omega⟩
  rw [Nat.pow_add, Nat.mul_assoc] at h
  have h2 := Nat.eq_of_mul_eq_mul_left (Nat.pow_pos (by omega)) h
  rw [Nat.pow_succ, Nat.mul_comm (2 ^ d) 2, Nat.mul_assoc] at h2
  omega
/-- The trailing ones of a number that is made of them. -/
theorem on_eq (a : BitVec 64) (n r : Nat) (h : a.toNat < 2 ^ 54) (e : a.toNat = 2 ^ (n + 1) * r + (2 ^ n - 1)) : on a = n := by
  obtain ⟨⟨r', hr⟩, _⟩ := on_rep a h
  have p1 : 0 < 2 ^ n := Nat.pow_pos (by omega)
  have p2 : 0 < 2 ^ on a := Nat.pow_pos (by omega)
  have e1 : a.toNat + 1 = 2 ^ n * (2 * r + 1) := by
    rw [e, Nat.pow_succ, Nat.mul_add, Nat.mul_one, Nat.mul_assoc]; omega
  have e2 : a.toNat + 1 = 2 ^ on a * (2 * r' + 1) := by
    rw [hr, Nat.pow_succ, Nat.mul_add, Nat.mul_one, Nat.mul_assoc]; omega
  have h1 := odd_pow (e1.symm.trans e2)
  have h2 := odd_pow (e2.symm.trans e1)
  omega
end Go.Proofs.YtonfobfhdmejkaaDoor
