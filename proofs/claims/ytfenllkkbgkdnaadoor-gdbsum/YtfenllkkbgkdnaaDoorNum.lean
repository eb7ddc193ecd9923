/-
  Num.
-/
import Derived.Test.YtfenllkkbgkdnaaDoorBase
import Derived.Laws.Bits64
namespace Go.Proofs.YtfenllkkbgkdnaaDoor
open Go.ChangeShapes Go.WideShapes Go.ChangeAt Go.RowKit

theorem ret_int {k : IntKind} {a b : Int} (h : a = b) : Ending.returned (.int k a) = .returned (.int k b) := by rw [h]

theorem ofInt_n64 (x : BitVec 64) : BitVec.ofInt 64 (n64 x) = x := by
  unfold n64; apply BitVec.eq_of_toNat_eq; rw [BitVec.toNat_ofInt]; have := x.isLt; omega

/-- Whatever wraps is the word of that number. -/
theorem wrap_n64 (z : Int) : IntKind.u64.wrap z = n64 (BitVec.ofInt 64 z) := by
  unfold n64; rw [IntKind.wrap_u64, BitVec.toNat_ofInt]; omega

theorem n64_add (x y : BitVec 64) : IntKind.u64.wrap (n64 x + n64 y) = n64 (x + y) := by
  rw [IntKind.wrap_u64]; unfold n64; rw [BitVec.toNat_add]; omega
theorem n64_sub (x y : BitVec 64) : IntKind.u64.wrap (n64 x - n64 y) = n64 (x - y) := by
  rw [IntKind.wrap_u64]; unfold n64; rw [BitVec.toNat_sub]; have := x.isLt; have := y.isLt; omega
theorem n64_mul (x y : BitVec 64) : IntKind.u64.wrap (n64 x * n64 y) = n64 (x * y) := by
  rw [IntKind.wrap_u64]; unfold n64; rw [BitVec.toNat_mul, Int.natCast_emod, Int.natCast_mul]; rfl
theorem n64_and (x y : BitVec 64) : bits .and .u64 (n64 x) (n64 y) = n64 (x &&& y) := by
  show IntKind.u64.wrap ((BitVec.ofInt 64 (n64 x) &&& BitVec.ofInt 64 (n64 y)).toNat : Int) = _
  rw [ofInt_n64, ofInt_n64, wrap_n64]; exact congrArg n64 (ofInt_n64 _)
theorem n64_or (x y : BitVec 64) : bits .or .u64 (n64 x) (n64 y) = n64 (x ||| y) := by
  show IntKind.u64.wrap ((BitVec.ofInt 64 (n64 x) ||| BitVec.ofInt 64 (n64 y)).toNat : Int) = _
  rw [ofInt_n64, ofInt_n64, wrap_n64]; exact congrArg n64 (ofInt_n64 _)
theorem n64_xor (x y : BitVec 64) : bits .xor .u64 (n64 x) (n64 y) = n64 (x ^^^ y) := by
  show IntKind.u64.wrap ((BitVec.ofInt 64 (n64 x) ^^^ BitVec.ofInt 64 (n64 y)).toNat : Int) = _
  rw [ofInt_n64, ofInt_n64, wrap_n64]; exact congrArg n64 (ofInt_n64 _)
theorem n64_shl (x : BitVec 64) (k : Nat) : IntKind.u64.wrap (n64 x * 2 ^ k) = n64 (x <<< k) := by
  rw [IntKind.wrap_u64]; unfold n64; rw [BitVec.toNat_shiftLeft, Nat.shiftLeft_eq, Int.natCast_emod, Int.natCast_mul, Int.natCast_pow]; rfl
theorem n64_shr (x : BitVec 64) (k : Nat) : n64 x / 2 ^ k = n64 (x >>> k) := by
  unfold n64; rw [BitVec.toNat_ushiftRight, Nat.shiftRight_eq_div_pow, Int.natCast_ediv, Int.natCast_pow]; rfl
theorem n64_udiv (x y : BitVec 64) : n64 x / n64 y = n64 (x / y) := by
  unfold n64; rw [BitVec.toNat_udiv]; push_cast; rfl
theorem n64_udivw (x y : BitVec 64) : IntKind.u64.wrap ((n64 x).tdiv (n64 y)) = n64 (x / y) := by
  rw [Int.tdiv_eq_ediv_of_nonneg (n64_lo x), n64_udiv, wrap_n64, ofInt_n64]
theorem n64_umod (x y : BitVec 64) : n64 x % n64 y = n64 (x % y) := by
  unfold n64; rw [BitVec.toNat_umod]; push_cast; rfl

theorem wrap64_bmod (z : Int) : wrap64 z = z.bmod 18446744073709551616 := by
  unfold wrap64; rw [Int.bmod_def]; split <;> omega
theorem wrap32_bmod (z : Int) : wrap32 z = z.bmod 4294967296 := by
  unfold wrap32; rw [Int.bmod_def]; split <;> omega
theorem wrap64_n64 (x : BitVec 64) : wrap64 (n64 x) = x.toInt := by
  rw [wrap64_bmod, BitVec.toInt_eq_toNat_bmod]; rfl
theorem wrap32_n64 (x : BitVec 64) : wrap32 (n64 x) = (x.setWidth 32).toInt := by
  rw [wrap32_bmod, BitVec.toInt_eq_toNat_bmod, BitVec.toNat_setWidth]; unfold n64
  show _ = ((x.toNat % 4294967296 : Nat) : Int).bmod 4294967296
  rw [Int.natCast_emod]; exact (Int.emod_bmod _ 4294967296).symm
theorem wrap64_toInt (x : BitVec 64) : wrap64 x.toInt = x.toInt := by
  have h1 := BitVec.le_toInt x; have h2 := BitVec.toInt_lt (x := x)
  unfold wrap64; simp at h1 h2; omega
theorem wrap64_toInt32 (x : BitVec 32) : wrap64 x.toInt = x.toInt := by
  have h1 := BitVec.le_toInt x; have h2 := BitVec.toInt_lt (x := x)
  unfold wrap64; simp at h1 h2; omega
theorem n64_toInt (x : BitVec 64) : IntKind.u64.wrap x.toInt = n64 x := by
  rw [wrap_n64, BitVec.ofInt_toInt]

/-- The lower half, its sign repeated upwards. -/
def wid (x : BitVec 64) : BitVec 64 := (x.setWidth 32).signExtend 64
theorem n64_wid (x : BitVec 64) : IntKind.u64.wrap (wrap64 (wrap32 (n64 x))) = n64 (wid x) := by
  rw [wrap32_n64, wrap64_toInt32, wrap_n64]; rfl
/-- The lower half, zeros above. -/
def low (x : BitVec 64) : BitVec 64 := x &&& 4294967295#64
theorem n64_low (x : BitVec 64) : bits .and .u64 (n64 x) 4294967295 = n64 (low x) := n64_and x 4294967295#64

theorem n64_sra (x : BitVec 64) (k : Nat) : IntKind.u64.wrap (x.toInt / 2 ^ k) = n64 (x.sshiftRight k) := by
  have h : x.toInt / 2 ^ k = (x.sshiftRight k).toInt := by
    rw [BitVec.toInt_sshiftRight, Int.shiftRight_eq_div_pow, Int.natCast_pow]; rfl
  rw [h, n64_toInt]
theorem n64_sdiv (x y : BitVec 64) : IntKind.u64.wrap (wrap64 (x.toInt.tdiv y.toInt)) = n64 (x.sdiv y) := by
  have h : wrap64 (x.toInt.tdiv y.toInt) = (x.sdiv y).toInt := by
    rw [wrap64_bmod, BitVec.toInt_sdiv]
  rw [h, n64_toInt]
theorem n64_srem (x y : BitVec 64) : IntKind.u64.wrap (x.toInt.tmod y.toInt) = n64 (x.srem y) := by
  rw [← BitVec.toInt_srem, n64_toInt]
theorem n64_zero {y : BitVec 64} (h : n64 y = 0) : y = 0#64 := n64_inj.1 (h.trans rfl)
theorem toInt_zero {y : BitVec 64} (h : y.toInt = 0) : y = 0#64 := BitVec.eq_of_toInt_eq (by simpa using h)

/-! Quotients and comparisons as the document has them -/
def qDivu (x y : BitVec 64) : BitVec 64 := if y = 0#64 then ~~~0#64 else x / y
def qRemu (x y : BitVec 64) : BitVec 64 := if y = 0#64 then x else x % y
def qDiv (x y : BitVec 64) : BitVec 64 := if y = 0#64 then ~~~0#64 else x.sdiv y
def qRem (x y : BitVec 64) : BitVec 64 := if y = 0#64 then x else x.srem y
def bSlt (x y : BitVec 64) : BitVec 64 := if x.toInt < y.toInt then 1#64 else 0#64
def bSltu (x y : BitVec 64) : BitVec 64 := if n64 x < n64 y then 1#64 else 0#64
end Go.Proofs.YtfenllkkbgkdnaaDoor
