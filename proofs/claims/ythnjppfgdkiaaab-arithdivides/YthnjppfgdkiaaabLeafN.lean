/-
  The laws' own small functions: negative.
-/
import Derived.Test.YthnjppfgdkiaaabLeaf2
namespace Go.Proofs.Ythnjppfgdkiaaab
open Go.ChangeShapes Go.WideShapes Go.ChangeAt Go.RowKit
theorem negative_is (x : BitVec 64) (v : Bool) (h : ng x = v) (w : World) : Calls Try.prog 12 #[.int .u64 (n64 x)] w fun e w' => e = .returned (.bool v) ∧ w' = w := by
  have hx := n64_lo x
  have r : (n64 x / (9223372036854775808 : Int) == 1) = v := (n64_sign x).trans h
  clear h
  go_enter Try.func12, Try.ntmps12
  go_wp2
  go_ret
  exact ⟨rfl, rfl⟩
theorem product_any (x y : BitVec 64) (w : World) : Calls Try.prog 13 #[.int .u64 (n64 x), .int .u64 (n64 y)] w fun e w' => e = .returned (.tuple #[.int .u64 (n64 (hiP x y)), .int .u64 (n64 (x * y))]) ∧ w' = w := by
  go_enter Try.func13, Try.ntmps13
  go_wp2
  go_ret2
  refine ⟨ret_two ?_ (n64_mul x y), rfl⟩
  simp only [n64_hi32, n64_low, n64_mul, n64_add]
  have e : (x >>> 32) * (y >>> 32) + (midP x y >>> 32) + ((low x * (y >>> 32) + low (midP x y)) >>> 32) = hiP x y := by rw [BitVec.add_comm (low x * (y >>> 32))]; rfl
  exact congrArg n64 e
end Go.Proofs.Ythnjppfgdkiaaab
