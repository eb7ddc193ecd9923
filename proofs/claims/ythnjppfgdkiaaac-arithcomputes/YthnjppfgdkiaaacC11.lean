/-
  The equations: the reference's numbers of n bits as bit vectors.
-/
import Derived.Test.YthnjppfgdkiaaacC10
namespace Go.Proofs.Ythnjppfgdkiaaac
open Go.ChangeShapes Go.WideShapes Go.ChangeAt Go.RowKit
set_option linter.unusedVariables false
set_option linter.unusedSimpArgs false
theorem on_add {n : Nat} (a b : BitVec n) : BitVec.ofNat n (a.toNat + b.toNat + 0) = a + b := by
  apply BitVec.eq_of_toNat_eq; simp [BitVec.toNat_add]
theorem on_sub {n : Nat} (a b : BitVec n) : BitVec.ofNat n (mns a.toNat b.toNat n) = a - b := by
  apply BitVec.eq_of_toNat_eq; rw [BitVec.toNat_ofNat, mns_mod _ _ _ b.isLt, BitVec.toNat_sub, Nat.add_comm]
theorem on_shl {n : Nat} (a : BitVec n) (s : Nat) : BitVec.ofNat n (a.toNat * 2 ^ s) = a <<< s := by
  apply BitVec.eq_of_toNat_eq; rw [BitVec.toNat_ofNat, BitVec.toNat_shiftLeft, Nat.shiftLeft_eq]
theorem on_shr {n : Nat} (a : BitVec n) (s : Nat) : BitVec.ofNat n (a.toNat / 2 ^ s) = a >>> s := by
  apply BitVec.eq_of_toNat_eq; rw [BitVec.toNat_ofNat, BitVec.toNat_ushiftRight, Nat.shiftRight_eq_div_pow]
  exact Nat.mod_eq_of_lt (Nat.lt_of_le_of_lt (Nat.div_le_self _ _) a.isLt)
theorem on_sra {n : Nat} (a : BitVec n) (s : Nat) : BitVec.ofNat n (srn a.toNat n s) = a.sshiftRight s := by
  unfold srn; simp
theorem on_xor {n : Nat} (a b : BitVec n) : BitVec.ofNat n (a.toNat ^^^ b.toNat) = a ^^^ b := by
  apply BitVec.eq_of_toNat_eq; rw [← BitVec.toNat_xor]; simp
theorem on_or {n : Nat} (a b : BitVec n) : BitVec.ofNat n (a.toNat ||| b.toNat) = a ||| b := by
  apply BitVec.eq_of_toNat_eq; rw [← BitVec.toNat_or]; simp
theorem on_and {n : Nat} (a b : BitVec n) : BitVec.ofNat n (a.toNat &&& b.toNat) = a &&& b := by
  apply BitVec.eq_of_toNat_eq; rw [← BitVec.toNat_and]; simp
theorem on_mul {n : Nat} (a b : BitVec n) : BitVec.ofNat n (a.toNat * (b.toNat % 2 ^ n)) = a * b := by
  apply BitVec.eq_of_toNat_eq; rw [BitVec.toNat_ofNat, BitVec.toNat_mul, Nat.mod_eq_of_lt b.isLt]
theorem on_div {n : Nat} (a b : BitVec n) : BitVec.ofNat n (a.toNat / b.toNat) = a / b := by
  apply BitVec.eq_of_toNat_eq; rw [BitVec.toNat_ofNat, BitVec.toNat_udiv]
  exact Nat.mod_eq_of_lt (Nat.lt_of_le_of_lt (Nat.div_le_self _ _) a.isLt)
theorem on_mod {n : Nat} (a b : BitVec n) : BitVec.ofNat n (a.toNat % b.toNat) = a % b := by
  apply BitVec.eq_of_toNat_eq; rw [BitVec.toNat_ofNat, BitVec.toNat_umod]
  exact Nat.mod_eq_of_lt (Nat.lt_of_le_of_lt (Nat.mod_le _ _) a.isLt)
theorem on_ones (n : Nat) : BitVec.ofNat n (tnd 0 n) = ~~~0#n := by
  apply BitVec.eq_of_toNat_eq; unfold tnd
  rw [BitVec.toNat_ofNat, BitVec.toNat_not, BitVec.toNat_ofNat, Nat.zero_mod]
  have := Nat.two_pow_pos n
  rw [Nat.mod_eq_of_lt (by omega)]; omega
theorem bt_msb {n : Nat} (a : BitVec n) (hn : 0 < n) : bt a.toNat (n - 1) = if a.msb then 1 else 0 := by
  rw [bt_test, BitVec.testBit_toNat, ← BitVec.msb_eq_getLsbD_last]
theorem szn_bv {n : Nat} (a : BitVec n) (hn : 0 < n) : szn a.toNat n = (if a.msb then -a else a).toNat := by
  unfold szn; rw [bt_msb a hn]
  cases h : a.msb
  · simp
  · have h1 : bt a.toNat (n - 1) = 1 := by rw [bt_msb a hn, h]; rfl
    have := bt_top h1; have := a.isLt
    simp only [if_true, if_pos, BitVec.toNat_neg]
    rw [Nat.mod_eq_of_lt (by omega)]
theorem ngn_bv {n : Nat} (a : BitVec n) : BitVec.ofNat n (ngn a.toNat n) = -a := by
  apply BitVec.eq_of_toNat_eq; unfold ngn; simp [BitVec.toNat_neg]
theorem on_sdiv {n : Nat} (a b : BitVec n) (hn : 0 < n) : BitVec.ofNat n (sq a.toNat b.toNat n) = a.sdiv b := by
  unfold sq; rw [szn_bv a hn, szn_bv b hn, bt_msb a hn, bt_msb b hn, BitVec.sdiv_eq, ← BitVec.toNat_udiv]
  cases a.msb <;> cases b.msb <;> simp only [if_true, if_false, Bool.false_eq_true, reduceIte, Int.reduceEq]
  all_goals first | (rw [ngn_bv]; done) | (rw [ngn_bv]; rfl) | (rw [BitVec.ofNat_toNat, BitVec.setWidth_eq]; done) | (rw [BitVec.ofNat_toNat, BitVec.setWidth_eq]; rfl)
theorem on_srem {n : Nat} (a b : BitVec n) (hn : 0 < n) : BitVec.ofNat n (sr a.toNat b.toNat n) = a.srem b := by
  unfold sr; rw [szn_bv a hn, szn_bv b hn, bt_msb a hn, BitVec.srem_eq, ← BitVec.toNat_umod]
  cases a.msb <;> cases b.msb <;> simp only [if_true, if_false, Bool.false_eq_true, reduceIte, Int.reduceEq]
  all_goals first | (rw [ngn_bv]; done) | (rw [ngn_bv]; rfl) | (rw [BitVec.ofNat_toNat, BitVec.setWidth_eq]; done) | (rw [BitVec.ofNat_toNat, BitVec.setWidth_eq]; rfl)
theorem e64 (N : Nat) : jv (wdn N 64) 64 = BitVec.ofNat 64 N := by
  apply BitVec.eq_of_toNat_eq; rw [jv_toNat _ _ (by decide), BitVec.toNat_ofNat]; unfold wdn
  simp
theorem e32 (N : Nat) : jv (wdn N 32) 64 = (BitVec.ofNat 32 N).signExtend 64 := by
  apply BitVec.eq_of_toNat_eq; rw [jv_toNat _ _ (by decide), BitVec.toNat_signExtend, BitVec.msb_eq_getLsbD_last, BitVec.getLsbD_ofNat]; unfold wdn
  simp
  split <;> omega
/-- What is said of n bits, kept to the lower half. -/
theorem wid_eq (z : BitVec 64) : wid z = (z.setWidth 32).signExtend 64 := rfl
theorem sv {n : Nat} (a : BitVec n) (hn : 0 < n) : sval n a.toNat = a.toInt := by
  unfold sval; rw [BitVec.toInt_eq_msb_cond]
  have h := bt_msb a hn
  unfold bt at h
  cases hm : a.msb
  · rw [hm] at h
    have h0 : ((a.toNat / 2 ^ (n - 1) % 2 : Nat) : Int) = 0 := h
    rw [if_neg (fun e => by rw [e] at h0; cases h0)]; simp
  · rw [hm] at h
    have h1 : ((a.toNat / 2 ^ (n - 1) % 2 : Nat) : Int) = 1 := h
    rw [if_pos (by exact_mod_cast h1)]; simp
theorem yes_slt (x y : BitVec 64) : BitVec.ofNat 64 (decide (sval 64 x.toNat < sval 64 y.toNat)).toNat = bSlt x y := by
  rw [sv x (by decide), sv y (by decide)]; unfold bSlt
  by_cases h : x.toInt < y.toInt <;> simp [h]
theorem yes_sltu (x y : BitVec 64) : BitVec.ofNat 64 (decide (x.toNat < y.toNat)).toNat = bSltu x y := by
  unfold bSltu n64
  by_cases h : x.toNat < y.toNat
  · rw [if_pos (by omega)]; simp [h]
  · rw [if_neg (by omega)]; simp [h]
theorem sh64 (y : BitVec 64) : (n64 y % 64).toNat = y.toNat % 64 := by unfold n64; omega
theorem sh32 (y : BitVec 64) : (n64 y % 32 % 64).toNat = y.toNat % 2 ^ 32 % 32 := by unfold n64; omega
theorem lowN (x : BitVec 64) : x.toNat % 2 ^ 32 = (x.setWidth 32).toNat := by simp
theorem lowB (x : BitVec 64) : low x = (x.setWidth 32).setWidth 64 := by
  unfold low; apply BitVec.eq_of_toNat_eq
  rw [BitVec.toNat_and, show (4294967295#64).toNat = 2 ^ 32 - 1 by decide, Nat.and_two_pow_sub_one_eq_mod]; simp
  omega
theorem w_shl (x : BitVec 64) (s : Nat) : (x <<< s).setWidth 32 = x.setWidth 32 <<< s := by
  apply BitVec.eq_of_toNat_eq; simp [BitVec.toNat_shiftLeft, Nat.shiftLeft_eq]
theorem w_shr (x : BitVec 64) (s : Nat) : (low x >>> s).setWidth 32 = x.setWidth 32 >>> s := by
  rw [lowB]; apply BitVec.eq_of_getLsbD_eq; intro i hi
  simp [hi]
  intro h1 _; omega
theorem w_sra (x : BitVec 64) (s : Nat) (hs : s < 32) : ((wid x).sshiftRight s).setWidth 32 = (x.setWidth 32).sshiftRight s := by
  apply BitVec.eq_of_getLsbD_eq; intro i hi
  unfold wid
  simp only [BitVec.getLsbD_setWidth, BitVec.getLsbD_sshiftRight, BitVec.getLsbD_signExtend, BitVec.msb_signExtend]
  have h1 : decide (64 ≤ i) = false := decide_eq_false (by omega)
  have h2 : decide (32 ≤ i) = false := decide_eq_false (by omega)
  have h3 : s + i < 64 := by omega
  by_cases h : s + i < 32 <;> simp [hi, h1, h2, h3, h]
theorem toInt32 (z : BitVec 64) : (z.setWidth 32).toInt = z.toInt.bmod (2 ^ 32) := by
  rw [BitVec.toInt_setWidth, BitVec.toInt_eq_toNat_bmod z, Int.bmod_bmod_of_dvd (by decide)]
theorem toIntW (x : BitVec 64) : (wid x).toInt = (x.setWidth 32).toInt := by
  unfold wid; exact BitVec.toInt_signExtend_of_le (by decide)
theorem wid0 (y : BitVec 64) : wid y = 0#64 ↔ y.setWidth 32 = 0#32 := by
  constructor
  · intro h; apply BitVec.eq_of_toInt_eq; rw [← toIntW, h]; rfl
  · intro h; unfold wid; rw [h]; rfl
theorem low0 (y : BitVec 64) : low y = 0#64 ↔ y.setWidth 32 = 0#32 := by
  rw [lowB]; constructor
  · intro h; apply BitVec.eq_of_toNat_eq; have := congrArg BitVec.toNat h; simp at this ⊢; omega
  · intro h; rw [h]; rfl
theorem w_sdiv (x y : BitVec 64) : (qDiv (wid x) (wid y)).setWidth 32 = if y.setWidth 32 = 0#32 then ~~~0#32 else (x.setWidth 32).sdiv (y.setWidth 32) := by
  unfold qDiv
  by_cases h : y.setWidth 32 = 0#32
  · rw [if_pos h, if_pos ((wid0 y).2 h)]; rfl
  · rw [if_neg h, if_neg (fun e => h ((wid0 y).1 e))]
    apply BitVec.eq_of_toInt_eq
    rw [toInt32, BitVec.toInt_sdiv, BitVec.toInt_sdiv, toIntW, toIntW, Int.bmod_bmod_of_dvd (by decide)]
theorem w_srem (x y : BitVec 64) : (qRem (wid x) (wid y)).setWidth 32 = if y.setWidth 32 = 0#32 then x.setWidth 32 else (x.setWidth 32).srem (y.setWidth 32) := by
  unfold qRem
  by_cases h : y.setWidth 32 = 0#32
  · rw [if_pos h, if_pos ((wid0 y).2 h)]
    apply BitVec.eq_of_toInt_eq; rw [toInt32, toIntW]; exact BitVec.toInt_bmod_cancel _
  · rw [if_neg h, if_neg (fun e => h ((wid0 y).1 e))]
    apply BitVec.eq_of_toInt_eq
    rw [toInt32, BitVec.toInt_srem, toIntW, toIntW, ← BitVec.toInt_srem]; exact BitVec.toInt_bmod_cancel _
theorem upN (X : BitVec 32) : (X.setWidth 64).toNat = X.toNat := BitVec.toNat_setWidth_of_le (by decide)
theorem w_udiv (x y : BitVec 64) : (qDivu (low x) (low y)).setWidth 32 = if y.setWidth 32 = 0#32 then ~~~0#32 else x.setWidth 32 / y.setWidth 32 := by
  unfold qDivu
  by_cases h : y.setWidth 32 = 0#32
  · rw [if_pos h, if_pos ((low0 y).2 h)]; rfl
  · rw [if_neg h, if_neg (fun e => h ((low0 y).1 e)), lowB, lowB]
    apply BitVec.eq_of_toNat_eq
    rw [BitVec.toNat_setWidth, BitVec.toNat_udiv, BitVec.toNat_udiv, upN, upN]
    exact Nat.mod_eq_of_lt (Nat.lt_of_le_of_lt (Nat.div_le_self _ _) (x.setWidth 32).isLt)
theorem w_umod (x y : BitVec 64) : (qRemu (low x) (low y)).setWidth 32 = if y.setWidth 32 = 0#32 then x.setWidth 32 else x.setWidth 32 % y.setWidth 32 := by
  unfold qRemu
  by_cases h : y.setWidth 32 = 0#32
  · rw [if_pos h, if_pos ((low0 y).2 h), lowB]
    apply BitVec.eq_of_toNat_eq; rw [BitVec.toNat_setWidth, upN]; exact Nat.mod_eq_of_lt (x.setWidth 32).isLt
  · rw [if_neg h, if_neg (fun e => h ((low0 y).1 e)), lowB, lowB]
    apply BitVec.eq_of_toNat_eq
    rw [BitVec.toNat_setWidth, BitVec.toNat_umod, BitVec.toNat_umod, upN, upN]
    exact Nat.mod_eq_of_lt (Nat.lt_of_le_of_lt (Nat.mod_le _ _) (x.setWidth 32).isLt)
end Go.Proofs.Ythnjppfgdkiaaac
