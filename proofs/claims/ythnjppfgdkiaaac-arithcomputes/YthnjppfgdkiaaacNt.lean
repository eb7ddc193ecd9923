/-
  Bits of numbers.
-/
import Derived.Test.YthnjppfgdkiaaacRef4
namespace Go.Proofs.Ythnjppfgdkiaaac
open Go.ChangeShapes Go.WideShapes Go.ChangeAt Go.RowKit
theorem bt_test (N k : Nat) : bt N k = if N.testBit k then 1 else 0 := by
  unfold bt; rw [Nat.testBit_eq_decide_div_mod_eq]
  rcases Nat.mod_two_eq_zero_or_one (N / 2 ^ k) with h | h <;> simp [h]
theorem bt_eq {M N k : Nat} (h : M.testBit k = N.testBit k) : bt M k = bt N k := by rw [bt_test, bt_test, h]
theorem bt_mod (A n j : Nat) (h : j < n) : bt (A % 2 ^ n) j = bt A j := bt_eq (by rw [Nat.testBit_mod_two_pow]; simp [h])
theorem bl_mod (A n : Nat) : bl (A % 2 ^ n) n = bl A n := mk_congr (fun j hj => bt_mod A n j hj)
/-- The lowest n bits, the highest of them repeated up to 64. -/
def wdn (A n : Nat) : Nat := if A.testBit (n - 1) then 2 ^ n * (2 ^ (64 - n) - 1) + A % 2 ^ n else A % 2 ^ n
theorem wdn_bit (A n j : Nat) (hj : j < 64) : bt (wdn A n) j = if j < n then bt A j else bt A (n - 1) := by
  unfold wdn
  by_cases h : A.testBit (n - 1) = true
  · rw [if_pos h, bt_test, Nat.testBit_two_pow_mul_add _ (Nat.mod_lt _ (Nat.two_pow_pos n))]
    by_cases hl : j < n
    · rw [if_pos hl, if_pos hl, bt_test, Nat.testBit_mod_two_pow]; simp [hl]
    · rw [if_neg hl, if_neg hl, bt_test, h, Nat.testBit_two_pow_sub_one]; simp; omega
  · rw [if_neg h, bt_test, Nat.testBit_mod_two_pow]
    by_cases hl : j < n
    · rw [if_pos hl, bt_test]; simp [hl]
    · rw [if_neg hl, bt_test]; simp [hl, h]
theorem jv_toNat (N k : Nat) (hk : k ≤ 64) : (jv N k).toNat = N % 2 ^ k := by
  unfold jv; rw [BitVec.toNat_ofNat]
  exact Nat.mod_eq_of_lt (Nat.lt_of_lt_of_le (Nat.mod_lt _ (Nat.two_pow_pos k)) (Nat.pow_le_pow_right (by decide) hk))
theorem jv_or (N k : Nat) (hk : k < 64) : jv N k ||| (BitVec.ofNat 64 (N / 2 ^ k % 2) <<< k) = jv N (k + 1) := by
  rcases Nat.mod_two_eq_zero_or_one (N / 2 ^ k) with h | h
  · rw [h, jv_miss (by unfold bt; rw [h]; rfl)]; simp
  · rw [h, jv_hit (by unfold bt; rw [h]; rfl)]
    refine (BitVec.add_eq_or_of_and_eq_zero _ _ ?_).symm
    apply BitVec.eq_of_toNat_eq
    rw [BitVec.toNat_and, jv_toNat N k (by omega), BitVec.toNat_shiftLeft, Nat.shiftLeft_eq]
    show (N % 2 ^ k) &&& (1 * 2 ^ k % 2 ^ 64) = 0
    rw [Nat.one_mul, Nat.mod_eq_of_lt (Nat.pow_lt_pow_right (by decide) hk)]
    apply Nat.eq_of_testBit_eq; intro i
    rw [Nat.testBit_and, Nat.testBit_mod_two_pow, Nat.testBit_two_pow]
    simp; intro h1 _; omega
end Go.Proofs.Ythnjppfgdkiaaac
