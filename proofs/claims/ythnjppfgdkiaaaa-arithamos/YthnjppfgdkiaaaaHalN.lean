/-
  Halves: the numbers.
-/
import Derived.Test.YthnjppfgdkiaaaaLeaf2
namespace Go.Proofs.Ythnjppfgdkiaaaa
open Go.ChangeShapes Go.WideShapes Go.ChangeAt Go.RowKit

def hiMask : BitVec 64 := ~~~4294967295#64
theorem hi_bits : ∀ j : Fin 64, hiMask[j.val] = decide (32 ≤ j.val) := by decide
theorem hi_bit (i : Nat) (hi : i < 64) : hiMask[i] = decide (32 ≤ i) := hi_bits ⟨i, hi⟩
theorem mask_twoPow : 4294967295#64 = BitVec.setWidth 64 (BitVec.allOnes 32) := by decide
theorem low_eq (x : BitVec 64) : low x = (x.setWidth 32).setWidth 64 := by
  unfold low; rw [mask_twoPow]; ext i hi
  simp only [BitVec.getElem_and, BitVec.getElem_setWidth, BitVec.getLsbD_setWidth, BitVec.getLsbD_allOnes]
  by_cases h : i < 32 <;> simp [h, BitVec.getLsbD_eq_getElem hi]
theorem sw_wid (x : BitVec 64) : (wid x).setWidth 32 = x.setWidth 32 := by
  unfold wid; ext i hi
  simp only [BitVec.getElem_setWidth]
  rw [BitVec.getLsbD_signExtend]
  simp [hi, show i < 64 by omega]
theorem sw_low (x : BitVec 64) : (low x).setWidth 32 = x.setWidth 32 := by
  rw [low_eq]; ext i hi
  simp [BitVec.getElem_setWidth, show i < 64 by omega]
theorem sw_hi (x : BitVec 64) : (x ||| hiMask).setWidth 32 = x.setWidth 32 := by
  ext i hi
  have h : hiMask.getLsbD i = false := by
    rw [BitVec.getLsbD_eq_getElem (by omega), hi_bit i (by omega)]; simp; omega
  simp only [BitVec.getElem_setWidth, BitVec.getLsbD_or, h, Bool.or_false]
theorem wid_congr {x y : BitVec 64} (h : x.setWidth 32 = y.setWidth 32) : wid x = wid y := by unfold wid; rw [h]
theorem low_congr {x y : BitVec 64} (h : x.setWidth 32 = y.setWidth 32) : low x = low y := by rw [low_eq, low_eq, h]
theorem wid_wid (x : BitVec 64) : wid (wid x) = wid x := wid_congr (sw_wid x)
theorem wid_low (x : BitVec 64) : wid (low x) = wid x := wid_congr (sw_low x)
theorem wid_hi (x : BitVec 64) : wid (x ||| hiMask) = wid x := wid_congr (sw_hi x)
theorem low_wid (x : BitVec 64) : low (wid x) = low x := low_congr (sw_wid x)
theorem low_low (x : BitVec 64) : low (low x) = low x := low_congr (sw_low x)
theorem low_hi (x : BitVec 64) : low (x ||| hiMask) = low x := low_congr (sw_hi x)
theorem mod32 (x : BitVec 64) : n64 x % 32 = ((x.setWidth 32).toNat : Int) % 32 := by
  unfold n64; rw [BitVec.toNat_setWidth]; omega
theorem mod32_congr {x y : BitVec 64} (h : x.setWidth 32 = y.setWidth 32) : n64 x % 32 = n64 y % 32 := by rw [mod32, mod32, h]
theorem and31 (x : BitVec 64) : n64 (x &&& 31#64) = n64 x % 32 := by
  unfold n64; rw [BitVec.toNat_and]
  have := Nat.and_two_pow_sub_one_eq_mod x.toNat 5
  simp at this ⊢; rw [this]; omega
theorem wid_if (x : BitVec 64) : wid x = if n64 (low x) / 2147483648 = 1 then low x ||| hiMask else low x := by
  have hb : n64 (low x) / 2147483648 = 1 ↔ (x.setWidth 32).msb = true := by
    rw [low_eq, BitVec.msb_eq_decide]
    unfold n64; rw [BitVec.toNat_setWidth_of_le (by decide)]
    have := (x.setWidth 32).isLt
    simp only [decide_eq_true_eq]
    omega
  by_cases h : n64 (low x) / 2147483648 = 1
  · rw [if_pos h]; have hm := hb.1 h
    unfold wid; rw [low_eq]; ext i hi
    simp only [BitVec.getElem_or, hi_bit i hi]
    simp [BitVec.getElem_signExtend, hm]
    by_cases h32 : i < 32 <;> simp [h32] <;> omega
  · rw [if_neg h]; have hm : (x.setWidth 32).msb = false := by
      cases hc : (x.setWidth 32).msb
      · rfl
      · exact absurd (hb.2 hc) h
    unfold wid; rw [low_eq]; ext i hi
    simp [BitVec.getElem_signExtend, hm]

end Go.Proofs.Ythnjppfgdkiaaaa
