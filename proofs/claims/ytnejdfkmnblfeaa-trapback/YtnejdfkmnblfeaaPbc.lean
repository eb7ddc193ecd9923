/-
  Cfg of the program and of the reference.
-/
import Derived.Test.YtnejdfkmnblfeaaPbm
namespace Go.Proofs.Ytnejdfkmnblfeaa
set_option linter.unusedVariables false
open Go.ChangeShapes Go.WideShapes Go.ChangeAt Go.RowKit Go.Deep
/-- The number of the first k bytes, the lowest first. -/
def VF (x : Nat → Nat) : Nat → Nat
  | 0 => 0
  | k + 1 => VF x k + x k * 256 ^ k
/-- The number of the k bytes from the eighth downwards. -/
def VR (x : Nat → Nat) : Nat → Nat
  | 0 => 0
  | m + 1 => VR x m * 256 + x (7 - m)
theorem VF_lt (x : Nat → Nat) (hx : ∀ j, x j < 256) : ∀ k, VF x k < 256 ^ k
  | 0 => by simp [VF]
  | k + 1 => by
    have := VF_lt x hx k
    have h := hx k
    have h2 : x k * 256 ^ k ≤ 255 * 256 ^ k := Nat.mul_le_mul_right _ (by omega)
    rw [VF, Nat.pow_succ]
    omega
theorem VR_8 (x : Nat → Nat) : VR x 8 = VF x 8 := by simp [VR, VF]; omega
theorem VR_lt (x : Nat → Nat) (hx : ∀ j, x j < 256) : ∀ k, VR x k < 256 ^ k
  | 0 => by simp [VR]
  | k + 1 => by
    have := VR_lt x hx k
    have h := hx (7 - k)
    rw [VR, Nat.pow_succ]
    omega
def cby (c : Nat → BitVec 8) (f : Nat) : Nat → Nat := fun j => (c (f + j)).toNat
theorem cby_lt (c : Nat → BitVec 8) (f j : Nat) : cby c f j < 256 := (c (f + j)).isLt
/-- Eight Cfg bytes as one number. -/
def cfgV (c : Nat → BitVec 8) (f : Nat) : Int := ((VF (cby c f) 8 : Nat) : Int)
theorem or_byte (x : Nat → Nat) (hx : ∀ j, x j < 256) (k : Nat) (hk : k < 8) : bits .or .u64 ((VF x k : Nat) : Int) (IntKind.u64.wrap (((x k : Nat) : Int) * 2 ^ (8 * k))) = ((VF x (k + 1) : Nat) : Int) := by
  have h1 := VF_lt x hx k
  have hp : (256 : Nat) ^ k = 2 ^ (8 * k) := by rw [show (256 : Nat) = 2 ^ 8 from rfl, ← Nat.pow_mul]
  have h2 : x k * 256 ^ k ≤ 255 * 256 ^ k := Nat.mul_le_mul_right _ (by have := hx k; omega)
  have h3 : 256 * 256 ^ k ≤ 18446744073709551616 := by
    rw [show 256 * 256 ^ k = 256 ^ (k + 1) by rw [Nat.pow_succ, Nat.mul_comm]]
    exact Nat.le_trans (Nat.pow_le_pow_right (by omega) (show k + 1 ≤ 8 by omega)) (by decide)
  have e1 : IntKind.u64.wrap (((x k : Nat) : Int) * 2 ^ (8 * k)) = ((x k * 256 ^ k : Nat) : Int) := by
    rw [hp] at h2 h3 ⊢
    rw [show (((x k : Nat) : Int) * 2 ^ (8 * k)) = ((x k * 2 ^ (8 * k) : Nat) : Int) by push_cast; rfl, IntKind.wrap_u64]
    omega
  rw [e1]
  have e2 : bits .or .u64 ((VF x k : Nat) : Int) ((x k * 256 ^ k : Nat) : Int) = ((VF x k ||| x k * 256 ^ k : Nat) : Int) := by
    have a1 : ((VF x k : Nat) : Int) = n64 (BitVec.ofNat 64 (VF x k)) := by unfold n64; rw [BitVec.toNat_ofNat, Nat.mod_eq_of_lt (by omega)]
    have a2 : ((x k * 256 ^ k : Nat) : Int) = n64 (BitVec.ofNat 64 (x k * 256 ^ k)) := by unfold n64; rw [BitVec.toNat_ofNat, Nat.mod_eq_of_lt (by omega)]
    rw [a1, a2, n64_or]
    unfold n64
    rw [BitVec.toNat_or, BitVec.toNat_ofNat, BitVec.toNat_ofNat, Nat.mod_eq_of_lt (by omega), Nat.mod_eq_of_lt (by omega)]
  rw [e2, VF]
  congr 1
  rw [hp] at h1 ⊢
  have := Nat.two_pow_add_eq_or_of_lt h1 (x k)
  rw [Nat.or_comm, Nat.mul_comm (x k), ← this, Nat.add_comm]
/-- What Cfg answers. -/
def cfgR (c : Nat → BitVec 8) (i : Int) : Int := if i = 0 then cfgV c 0 else if i = 2 then cfgV c 8 else 0
end Go.Proofs.Ytnejdfkmnblfeaa
