/-
  Long products: the numbers.
-/
import Derived.Test.YthnjppfgdkiaaacLeaf2
import Derived.Test.YthnjppfgdkiaaacNt
namespace Go.Proofs.Ythnjppfgdkiaaac
set_option linter.unusedVariables false
open Go.ChangeShapes Go.WideShapes Go.ChangeAt Go.RowKit
theorem low_nat (x : BitVec 64) : (low x).toNat = x.toNat % 4294967296 := by
  unfold low; rw [BitVec.toNat_and]; exact Nat.and_two_pow_sub_one_eq_mod x.toNat 32
theorem mul32 {a b : Nat} (ha : a < 4294967296) (hb : b < 4294967296) : a * b ≤ 18446744065119617025 := Nat.mul_le_mul (show a ≤ 4294967295 by omega) (show b ≤ 4294967295 by omega)
theorem school (a1 a0 b1 b0 : Nat) (h1 : a1 < 4294967296) (h2 : a0 < 4294967296) (h3 : b1 < 4294967296) (h4 : b0 < 4294967296) :
    (a1 * 4294967296 + a0) * (b1 * 4294967296 + b0) / 18446744073709551616 = a1 * b1 + (a1 * b0 + a0 * b0 / 4294967296) / 4294967296 + ((a1 * b0 + a0 * b0 / 4294967296) % 4294967296 + a0 * b1) / 4294967296 := by
  have e : (a1 * 4294967296 + a0) * (b1 * 4294967296 + b0) = (a1 * b1) * 18446744073709551616 + ((a1 * b0) + (a0 * b1)) * 4294967296 + a0 * b0 := by
    rw [Nat.add_mul, Nat.mul_add, Nat.mul_add]
    rw [show a1 * 4294967296 * (b1 * 4294967296) = a1 * b1 * 18446744073709551616 by rw [Nat.mul_mul_mul_comm], show a1 * 4294967296 * b0 = a1 * b0 * 4294967296 by rw [Nat.mul_right_comm], show a0 * (b1 * 4294967296) = a0 * b1 * 4294967296 by rw [Nat.mul_assoc]]
    omega
  rw [e]
  generalize a1 * b1 = p11 at *
  generalize a1 * b0 = p10 at *
  generalize a0 * b1 = p01 at *
  generalize a0 * b0 = p00 at *
  omega
theorem hiP_nat (x y : BitVec 64) : (hiP x y).toNat = x.toNat * y.toNat / 18446744073709551616 := by
  have hx := x.isLt; have hy := y.isLt
  have ex : x.toNat = x.toNat / 4294967296 * 4294967296 + x.toNat % 4294967296 := by omega
  have ey : y.toNat = y.toNat / 4294967296 * 4294967296 + y.toNat % 4294967296 := by omega
  have a1 : x.toNat / 4294967296 < 4294967296 := by omega
  have a0 : x.toNat % 4294967296 < 4294967296 := by omega
  have b1 : y.toNat / 4294967296 < 4294967296 := by omega
  have b0 : y.toNat % 4294967296 < 4294967296 := by omega
  have m11 := mul32 a1 b1; have m10 := mul32 a1 b0; have m01 := mul32 a0 b1; have m00 := mul32 a0 b0
  have hs : ∀ z : BitVec 64, (z >>> 32).toNat = z.toNat / 4294967296 := fun z => by rw [BitVec.toNat_ushiftRight, Nat.shiftRight_eq_div_pow]
  have hmid : (midP x y).toNat = x.toNat / 4294967296 * (y.toNat % 4294967296) + x.toNat % 4294967296 * (y.toNat % 4294967296) / 4294967296 := by
    unfold midP
    rw [BitVec.toNat_add, BitVec.toNat_mul, hs, hs, low_nat, BitVec.toNat_mul, low_nat, low_nat]
    rw [Nat.mod_eq_of_lt (show _ < 2 ^ 64 by omega), Nat.mod_eq_of_lt (show x.toNat % 4294967296 * (y.toNat % 4294967296) < 2 ^ 64 by omega), Nat.mod_eq_of_lt (by omega)]
  have key := school _ _ _ _ a1 a0 b1 b0
  rw [← ex, ← ey] at key
  rw [key]
  unfold hiP
  rw [BitVec.toNat_add, BitVec.toNat_add, BitVec.toNat_mul, hs, hs, hs, hs, hmid, BitVec.toNat_add, low_nat, hmid, BitVec.toNat_mul, low_nat, hs]
  generalize x.toNat / 4294967296 * (y.toNat / 4294967296) = p11 at *
  generalize x.toNat / 4294967296 * (y.toNat % 4294967296) = p10 at *
  generalize x.toNat % 4294967296 * (y.toNat / 4294967296) = p01 at *
  generalize x.toNat % 4294967296 * (y.toNat % 4294967296) = p00 at *
  have hb : p11 + (p10 + p00 / 4294967296) / 4294967296 + ((p10 + p00 / 4294967296) % 4294967296 + p01) / 4294967296 < 18446744073709551616 := by
    rw [← key]
    exact Nat.div_lt_of_lt_mul (Nat.mul_lt_mul'' hx hy)
  omega
/-- A word made as wide as 128 bits. -/
def w128 (A : Nat) (s : Bool) : Nat := if s && A.testBit 63 then 18446744073709551616 * 18446744073709551615 + A else A
theorem w128_lt (A : Nat) (s : Bool) (h : A < 18446744073709551616) : w128 A s < 340282366920938463463374607431768211456 := by
  unfold w128; split <;> omega
theorem w128_bit (A : Nat) (s : Bool) (h : A < 2 ^ 64) (j : Nat) (hj : j < 128) : bt (w128 A s) j = if j < 64 then bt A j else (if s then bt A 63 else 0) := by
  unfold w128
  have hz : ∀ i, 64 ≤ i → A.testBit i = false := fun i hi => Nat.testBit_lt_two_pow (Nat.lt_of_lt_of_le h (Nat.pow_le_pow_right (by decide) hi))
  by_cases hc : (s && A.testBit 63) = true
  · rw [if_pos hc]
    simp only [Bool.and_eq_true] at hc
    rw [bt_test, show (18446744073709551616 * 18446744073709551615 + A) = 2 ^ 64 * (2 ^ 64 - 1) + A from rfl, Nat.testBit_two_pow_mul_add _ h]
    by_cases hl : j < 64
    · rw [if_pos hl, if_pos hl, bt_test]
    · rw [if_neg hl, if_neg hl, hc.1, if_pos rfl, bt_test, hc.2, Nat.testBit_two_pow_sub_one]; simp; omega
  · rw [if_neg hc]
    by_cases hl : j < 64
    · rw [if_pos hl]
    · rw [if_neg hl, bt_test, hz j (by omega)]
      cases s
      · simp
      · simp only [Bool.true_and, Bool.not_eq_true] at hc
        rw [if_pos rfl, bt_test, hc]
theorem ng_test (x : BitVec 64) : ng x = x.toNat.testBit 63 := by
  unfold ng; rw [Nat.testBit_eq_decide_div_mod_eq, BitVec.toInt_eq_toNat_cond]
  have := x.isLt
  rw [Bool.eq_iff_iff]; simp only [decide_eq_true_eq]
  simp only [Nat.reducePow] at *
  split <;> omega
/-- What a sign adds to the upper half. -/
def tx (c : Bool) (n : Nat) : Nat := if c then 18446744073709551615 * n else 0
theorem prod_split (x y : Nat) (a b : Bool) (hx : x < 18446744073709551616) (hy : y < 18446744073709551616) : ∃ q, (if a then 18446744073709551616 * 18446744073709551615 + x else x) * (if b then 18446744073709551616 * 18446744073709551615 + y else y) = x * y + 18446744073709551616 * (tx a y + tx b x + 18446744073709551616 * q) := by
  unfold tx
  cases a <;> cases b
  · exact ⟨0, by simp⟩
  · refine ⟨0, ?_⟩; simp only [Bool.false_eq_true, if_false, if_true]; rw [Nat.mul_add, Nat.mul_comm x (18446744073709551616 * 18446744073709551615), Nat.mul_assoc]; omega
  · refine ⟨0, ?_⟩; simp only [Bool.false_eq_true, if_false, if_true]; rw [Nat.add_mul, Nat.mul_assoc]; omega
  · refine ⟨18446744073709551615 * 18446744073709551615, ?_⟩
    simp only [if_true]
    rw [Nat.add_mul, Nat.mul_add, Nat.mul_add, Nat.mul_comm x (18446744073709551616 * 18446744073709551615), Nat.mul_assoc 18446744073709551616 18446744073709551615 y, Nat.mul_assoc 18446744073709551616 18446744073709551615 x]
    omega
theorem jv_ofNat (N : Nat) : jv N 64 = BitVec.ofNat 64 N := by
  apply BitVec.eq_of_toNat_eq; rw [jv_toNat _ _ (by decide), BitVec.toNat_ofNat]
theorem tx_bv (c : Bool) (y : BitVec 64) : BitVec.ofNat 64 (tx c y.toNat) = -(if c then y else 0#64) := by
  unfold tx
  cases c
  · simp
  · apply BitVec.eq_of_toNat_eq
    simp only [if_true]
    rw [BitVec.toNat_ofNat, BitVec.toNat_neg]
    have := y.isLt
    omega
theorem wide_nat (x y : BitVec 64) (sa sb : Bool) : ∃ q, w128 x.toNat sa * (w128 y.toNat sb % 2 ^ 128) = x.toNat * y.toNat + 18446744073709551616 * (tx (sa && ng x) y.toNat + tx (sb && ng y) x.toNat + 18446744073709551616 * q) := by
  rw [Nat.mod_eq_of_lt (w128_lt y.toNat sb y.isLt), ng_test, ng_test]
  exact prod_split x.toNat y.toNat _ _ x.isLt y.isLt
theorem wide_hi (x y : BitVec 64) (sa sb : Bool) : jv (w128 x.toNat sa * (w128 y.toNat sb % 2 ^ 128) / 2 ^ 64) 64 = hiP x y - (if sa && ng x then y else 0#64) - (if sb && ng y then x else 0#64) := by
  obtain ⟨q, h⟩ := wide_nat x y sa sb
  rw [h, jv_ofNat, Nat.add_mul_div_left _ _ (by decide : 0 < 2 ^ 64), BitVec.ofNat_add, BitVec.ofNat_add, BitVec.ofNat_add, tx_bv, tx_bv]
  have h1 : BitVec.ofNat 64 (x.toNat * y.toNat / 2 ^ 64) = hiP x y := by
    apply BitVec.eq_of_toNat_eq; rw [hiP_nat, BitVec.toNat_ofNat]
    exact Nat.mod_eq_of_lt (Nat.div_lt_of_lt_mul (Nat.mul_lt_mul'' x.isLt y.isLt))
  have h2 : BitVec.ofNat 64 (18446744073709551616 * q) = 0#64 := by
    apply BitVec.eq_of_toNat_eq; rw [BitVec.toNat_ofNat]; simp
  rw [h1, h2, BitVec.add_zero, ← BitVec.add_assoc, ← BitVec.sub_eq_add_neg, ← BitVec.sub_eq_add_neg]
theorem wide_lo (x y : BitVec 64) (sa sb : Bool) : jv (w128 x.toNat sa * (w128 y.toNat sb % 2 ^ 128)) 64 = x * y := by
  obtain ⟨q, h⟩ := wide_nat x y sa sb
  rw [h, jv_ofNat]
  apply BitVec.eq_of_toNat_eq
  rw [BitVec.toNat_ofNat, BitVec.toNat_mul]
  exact Nat.add_mul_mod_self_left _ _ _
end Go.Proofs.Ythnjppfgdkiaaac
