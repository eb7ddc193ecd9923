/-
  The numbers of PmpShapes.
-/
import Derived.Test.YtonfobfhdmejkaaDoorPmd
namespace Go.Proofs.YtonfobfhdmejkaaDoor
set_option linter.unusedVariables false
open Go.ChangeShapes Go.WideShapes Go.ChangeAt Go.RowKit Go.Deep
/-- Where the range begins, and the Addr that says it. -/
def shF (n : Nat) (b : BitVec 64) : BitVec 64 := (b <<< 10 >>> 10 >>> (n + 1) <<< (n + 1)) <<< 2
def shA (n : Nat) (b : BitVec 64) : BitVec 64 := (shF n b >>> 2) ||| (1#64 <<< n - 1#64)
def shQ (n : Nat) (b : BitVec 64) : Nat := b.toNat % 2 ^ 54 / 2 ^ (n + 1)
theorem shQ_le (n : Nat) (b : BitVec 64) : shQ n b * 2 ^ (n + 1) < 2 ^ 54 := by
  have h1 : b.toNat % 2 ^ 54 < 2 ^ 54 := Nat.mod_lt _ (by decide)
  have h2 : shQ n b * 2 ^ (n + 1) ≤ b.toNat % 2 ^ 54 := Nat.div_mul_le_self _ _
  omega
theorem sh_cut (b : BitVec 64) : (b <<< 10 >>> 10).toNat = b.toNat % 2 ^ 54 := by
  rw [BitVec.toNat_ushiftRight, BitVec.toNat_shiftLeft, Nat.shiftLeft_eq, Nat.shiftRight_eq_div_pow]
  omega
theorem shF_nat (n : Nat) (b : BitVec 64) : (shF n b).toNat = shQ n b * 2 ^ (n + 1) * 4 := by
  have h := shQ_le n b
  unfold shF
  rw [BitVec.toNat_shiftLeft, BitVec.toNat_shiftLeft, BitVec.toNat_ushiftRight, sh_cut, Nat.shiftRight_eq_div_pow, Nat.shiftLeft_eq, Nat.shiftLeft_eq]
  show (shQ n b * 2 ^ (n + 1)) % 2 ^ 64 * 2 ^ 2 % 2 ^ 64 = _
  rw [Nat.mod_eq_of_lt (by omega), Nat.mod_eq_of_lt (by omega)]
theorem shA_nat (n : Nat) (hn : n ≤ 53) (b : BitVec 64) : (shA n b).toNat = 2 ^ (n + 1) * shQ n b + (2 ^ n - 1) := by
  have p : 0 < 2 ^ n := Nat.pow_pos (by omega)
  unfold shA
  rw [BitVec.toNat_or, BitVec.toNat_ushiftRight, shF_nat, mask_toNat n (by omega), Nat.shiftRight_eq_div_pow, show (2 : Nat) ^ 2 = 4 from rfl, Nat.mul_div_cancel _ (by omega), Nat.mul_comm (shQ n b)]
  exact (Nat.two_pow_add_eq_or_of_lt (by rw [Nat.pow_succ]; omega) _).symm
theorem shA_lt (n : Nat) (hn : n ≤ 53) (b : BitVec 64) : (shA n b).toNat < 2 ^ 54 := by
  have h1 := shA_nat n hn b
  have p : 0 < 2 ^ n := Nat.pow_pos (by omega)
  have h2 : 2 ^ (n + 1) * 2 ^ (53 - n) = 2 ^ 54 := by rw [← Nat.pow_add]; congr 1; omega
  have h3 : shQ n b < 2 ^ (53 - n) := by
    apply Nat.lt_of_not_le
    intro h
    have h4 := Nat.mul_le_mul_left (2 ^ (n + 1)) h
    have h5 := shQ_le n b
    rw [Nat.mul_comm] at h5
    omega
  have h4 : 2 ^ (n + 1) * (shQ n b + 1) ≤ 2 ^ (n + 1) * 2 ^ (53 - n) := Nat.mul_le_mul_left _ h3
  rw [Nat.mul_add, Nat.mul_one, h2] at h4
  have h5 : 2 ^ (n + 1) = 2 * 2 ^ n := by rw [Nat.pow_succ]; omega
  omega
theorem shA_on (n : Nat) (hn : n ≤ 53) (b : BitVec 64) : on (shA n b) = n := on_eq _ n _ (shA_lt n hn b) (shA_nat n hn b)
theorem pad_eq (x : BitVec 64) (h : x.toNat < 2 ^ 54) : pad x = x := by
  apply BitVec.eq_of_toNat_eq
  unfold pad
  rw [BitVec.toNat_and, show (18014398509481983#64).toNat = 2 ^ 54 - 1 from rfl, Nat.and_two_pow_sub_one_eq_mod, Nat.mod_eq_of_lt h]
theorem pad_nat (x : BitVec 64) : (pad x).toNat = x.toNat % 2 ^ 54 := by
  unfold pad
  rw [BitVec.toNat_and, show (18014398509481983#64).toNat = 2 ^ 54 - 1 from rfl, Nat.and_two_pow_sub_one_eq_mod]
theorem shA_div (n : Nat) (hn : n ≤ 53) (b : BitVec 64) : (shA n b).toNat / 2 ^ (n + 1) = shQ n b := by
  have p : 0 < 2 ^ n := Nat.pow_pos (by omega)
  have h5 : 2 ^ (n + 1) = 2 * 2 ^ n := by rw [Nat.pow_succ]; omega
  rw [shA_nat n hn b, Nat.mul_add_div (by omega), Nat.div_eq_of_lt (by omega), Nat.add_zero]
theorem sh_first (n : Nat) (hn : n ≤ 53) (b : BitVec 64) : npF (shA n b) = shF n b := by
  unfold npF
  rw [shA_on n hn b, if_neg (by omega), shA_div n hn b]
  apply BitVec.eq_of_toNat_eq
  have h := shQ_le n b
  rw [shF_nat, BitVec.toNat_ofNat]
  have e : 2 ^ (n + 3) * shQ n b = shQ n b * 2 ^ (n + 1) * 4 := by
    rw [show n + 3 = (n + 1) + 2 from rfl, Nat.pow_add (m := n + 1), Nat.mul_comm, ← Nat.mul_assoc]
  rw [e, Nat.mod_eq_of_lt (by omega)]
theorem sh_last (n : Nat) (hn : n ≤ 53) (b : BitVec 64) : (npL (shA n b)).toNat = (shF n b).toNat + (2 ^ (n + 3) - 1) ∧ (npL (shA n b)).toNat < 2 ^ 58 := by
  unfold npL
  have hb := np_bound (shA n b) (shA_lt n hn b) (by rw [shA_on n hn b]; omega)
  rw [shA_on n hn b, if_neg (by omega), shA_div n hn b] at *
  have e : 2 ^ (n + 3) * shQ n b = shQ n b * 2 ^ (n + 1) * 4 := by
    rw [show n + 3 = (n + 1) + 2 from rfl, Nat.pow_add (m := n + 1), Nat.mul_comm, ← Nat.mul_assoc]
  rw [BitVec.toNat_ofNat, Nat.mod_eq_of_lt (by omega), shF_nat, e]
  rw [e] at hb
  exact ⟨rfl, hb⟩
theorem pow3_lt (n : Nat) (hn : n ≤ 53) : 8 ≤ 2 ^ (n + 3) ∧ 2 ^ (n + 3) < 2 ^ 57 := by
  refine ⟨?_, Nat.pow_lt_pow_right (by omega) (by omega)⟩
  have := Nat.pow_le_pow_right (n := 2) (by omega) (show 3 ≤ n + 3 by omega)
  simpa using this
/-- hi - lo is size - 1. -/
theorem sh_size (n : Nat) (hn : n ≤ 53) (b : BitVec 64) : npL (shA n b) - shF n b = 8#64 <<< n - 1#64 := by
  obtain ⟨h1, h2⟩ := sh_last n hn b
  obtain ⟨p1, p2⟩ := pow3_lt n hn
  apply BitVec.eq_of_toNat_eq
  have h3 : (8#64 <<< n).toNat = 2 ^ (n + 3) := by
    rw [BitVec.toNat_shiftLeft, Nat.shiftLeft_eq, show (8#64).toNat = 2 ^ 3 from rfl, ← Nat.pow_add, Nat.add_comm, Nat.mod_eq_of_lt (by omega)]
  rw [BitVec.toNat_sub, BitVec.toNat_sub, h3, h1]
  have h4 := (shF n b).isLt
  rw [show (1#64).toNat = 1 from rfl]
  generalize (2 : Nat) ^ (n + 3) = z at *
  omega
end Go.Proofs.YtonfobfhdmejkaaDoor
