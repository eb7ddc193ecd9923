/-
  Long products; signs; the small functions of the laws.
-/
import Derived.Test.YthnjppfgdkiaaacLeaf
namespace Go.Proofs.Ythnjppfgdkiaaac
open Go.ChangeShapes Go.WideShapes Go.ChangeAt Go.RowKit

theorem n64_hi32 (x : BitVec 64) : n64 x / (4294967296 : Int) = n64 (x >>> 32) := n64_shr x 32
/-- The upper half of a product by the products of the halves. -/
def midP (x y : BitVec 64) : BitVec 64 := (x >>> 32) * low y + ((low x * low y) >>> 32)
def hiP (x y : BitVec 64) : BitVec 64 := (x >>> 32) * (y >>> 32) + (midP x y >>> 32) + ((low (midP x y) + low x * (y >>> 32)) >>> 32)
def ng (x : BitVec 64) : Bool := decide (x.toInt < 0)
def exc (x y : BitVec 64) : BitVec 64 := if ng x then y else 0#64
theorem ret_two {k l : IntKind} {a b c d : Int} (h : a = b) (g : c = d) : Ending.returned (.tuple #[.int k a, .int l c]) = .returned (.tuple #[.int k b, .int l d]) := by rw [h, g]

theorem mul64_any (x y : BitVec 64) (w : World) : Calls Try.prog 91 #[.int .u64 (n64 x), .int .u64 (n64 y)] w fun e w' => e = .returned (.tuple #[.int .u64 (n64 (hiP x y)), .int .u64 (n64 (x * y))]) ∧ w' = w := by
  go_enter Try.func91, Try.ntmps91
  go_wp2
  go_ret2
  refine ⟨ret_two ?_ (n64_mul x y), rfl⟩
  simp only [n64_hi32, n64_low, n64_mul, n64_add]
  rfl
theorem wide_any (x y : BitVec 64) (w : World) : Calls Try.prog 83 #[.int .u64 (n64 x), .int .u64 (n64 y)] w fun e w' => e = .returned (.tuple #[.int .u64 (n64 (hiP x y)), .int .u64 (n64 (x * y))]) ∧ w' = w := by
  go_enter Try.func83, Try.ntmps83
  go_wp2_with (go_at_call 91; refine (mul64_any _ _ _).mono ?_; rintro e w' ⟨rfl, rfl⟩)
  go_ret2
  exact ⟨rfl, rfl⟩
theorem excess_any (x y : BitVec 64) (w : World) : Calls Try.prog 90 #[.int .u64 (n64 x), .int .u64 (n64 y)] w fun e w' => e = .returned (.int .u64 (n64 (exc x y))) ∧ w' = w := by
  unfold exc ng
  have r := wrap64_n64 x
  by_cases h : x.toInt < 0
  · simp only [h, decide_true, if_true]
    go_enter Try.func90, Try.ntmps90
    go_wp2
    go_ret
    exact ⟨rfl, rfl⟩
  · simp only [h, decide_false]
    go_enter Try.func90, Try.ntmps90
    go_wp2
    go_ret
    exact ⟨rfl, rfl⟩
theorem wideSigned_any (x y : BitVec 64) (w : World) : Calls Try.prog 81 #[.int .u64 (n64 x), .int .u64 (n64 y)] w fun e w' => e = .returned (.tuple #[.int .u64 (n64 (hiP x y - exc x y - exc y x)), .int .u64 (n64 (x * y))]) ∧ w' = w := by
  have r1 := n64_sub
  go_enter Try.func81, Try.ntmps81
  go_wp2_with (first | (go_at_call 83; refine (wide_any _ _ _).mono ?_; rintro e w' ⟨rfl, rfl⟩) | (go_at_call 90; refine (excess_any _ _ _).mono ?_; rintro e w' ⟨rfl, rfl⟩))
  go_ret2
  exact ⟨rfl, rfl⟩
theorem wideMixed_any (x y : BitVec 64) (w : World) : Calls Try.prog 82 #[.int .u64 (n64 x), .int .u64 (n64 y)] w fun e w' => e = .returned (.tuple #[.int .u64 (n64 (hiP x y - exc x y)), .int .u64 (n64 (x * y))]) ∧ w' = w := by
  have r1 := n64_sub
  go_enter Try.func82, Try.ntmps82
  go_wp2_with (first | (go_at_call 83; refine (wide_any _ _ _).mono ?_; rintro e w' ⟨rfl, rfl⟩) | (go_at_call 90; refine (excess_any _ _ _).mono ?_; rintro e w' ⟨rfl, rfl⟩))
  go_ret2
  exact ⟨rfl, rfl⟩
theorem mulh_any (x y : BitVec 64) (w : World) : Calls Try.prog 45 #[.int .u64 (n64 x), .int .u64 (n64 y)] w fun e w' => e = .returned (.int .u64 (n64 (hiP x y - exc x y - exc y x))) ∧ w' = w := by
  go_enter Try.func45, Try.ntmps45
  go_wp2_with (go_at_call 81; refine (wideSigned_any _ _ _).mono ?_; rintro e w' ⟨rfl, rfl⟩)
  go_ret
  exact ⟨rfl, rfl⟩
theorem mulhsu_any (x y : BitVec 64) (w : World) : Calls Try.prog 46 #[.int .u64 (n64 x), .int .u64 (n64 y)] w fun e w' => e = .returned (.int .u64 (n64 (hiP x y - exc x y))) ∧ w' = w := by
  go_enter Try.func46, Try.ntmps46
  go_wp2_with (go_at_call 82; refine (wideMixed_any _ _ _).mono ?_; rintro e w' ⟨rfl, rfl⟩)
  go_ret
  exact ⟨rfl, rfl⟩
theorem mulhu_any (x y : BitVec 64) (w : World) : Calls Try.prog 47 #[.int .u64 (n64 x), .int .u64 (n64 y)] w fun e w' => e = .returned (.int .u64 (n64 (hiP x y))) ∧ w' = w := by
  go_enter Try.func47, Try.ntmps47
  go_wp2_with (go_at_call 83; refine (wide_any _ _ _).mono ?_; rintro e w' ⟨rfl, rfl⟩)
  go_ret
  exact ⟨rfl, rfl⟩
theorem c_mulh (x y : BitVec 64) (w : World) : Calls Try.prog 12 #[.int .i64 63, .int .u64 (n64 x), .int .u64 (n64 y)] w fun e w' => e = .returned (.tuple #[.int .u64 (n64 (hiP x y - exc x y - exc y x)), .bool true]) ∧ Below w.heap.size w w' :=
  compute_of 63 45 _ _ _ w (by decide) (by decide) (fun _ => by kernel_rfl) (fun _ => by kernel_rfl) (fun w => mulh_any x y w)
theorem o_mulh (x y : BitVec 64) (w : World) : Calls Try.prog 9 #[.int .i64 63, .int .u64 (n64 x), .int .u64 (n64 y)] w fun e w' => e = .returned (.int .u64 (n64 (hiP x y - exc x y - exc y x))) ∧ Below w.heap.size w w' :=
  op_of 63 _ _ _ w (fun w => c_mulh x y w)
theorem c_mulhsu (x y : BitVec 64) (w : World) : Calls Try.prog 12 #[.int .i64 64, .int .u64 (n64 x), .int .u64 (n64 y)] w fun e w' => e = .returned (.tuple #[.int .u64 (n64 (hiP x y - exc x y)), .bool true]) ∧ Below w.heap.size w w' :=
  compute_of 64 46 _ _ _ w (by decide) (by decide) (fun _ => by kernel_rfl) (fun _ => by kernel_rfl) (fun w => mulhsu_any x y w)
theorem o_mulhsu (x y : BitVec 64) (w : World) : Calls Try.prog 9 #[.int .i64 64, .int .u64 (n64 x), .int .u64 (n64 y)] w fun e w' => e = .returned (.int .u64 (n64 (hiP x y - exc x y))) ∧ Below w.heap.size w w' :=
  op_of 64 _ _ _ w (fun w => c_mulhsu x y w)
theorem c_mulhu (x y : BitVec 64) (w : World) : Calls Try.prog 12 #[.int .i64 65, .int .u64 (n64 x), .int .u64 (n64 y)] w fun e w' => e = .returned (.tuple #[.int .u64 (n64 (hiP x y)), .bool true]) ∧ Below w.heap.size w w' :=
  compute_of 65 47 _ _ _ w (by decide) (by decide) (fun _ => by kernel_rfl) (fun _ => by kernel_rfl) (fun w => mulhu_any x y w)
theorem o_mulhu (x y : BitVec 64) (w : World) : Calls Try.prog 9 #[.int .i64 65, .int .u64 (n64 x), .int .u64 (n64 y)] w fun e w' => e = .returned (.int .u64 (n64 (hiP x y))) ∧ Below w.heap.size w w' :=
  op_of 65 _ _ _ w (fun w => c_mulhu x y w)

/-- The complement, as the walk asks it. -/
theorem unary_com (x : BitVec 64) : Op.unary .xor (.int .u64 (n64 x)) = pure (.int .u64 (n64 (~~~x))) := by
  have h : bits .xor .u64 (n64 (~~~0#64)) (n64 x) = n64 (~~~x) := by
    rw [n64_xor]; congr 1
  show pure (Value.int IntKind.u64 (bits .xor .u64 (n64 (~~~0#64)) (n64 x))) = _
  rw [h]
theorem n64_sign (x : BitVec 64) : (n64 x / (9223372036854775808 : Int) == 1) = ng x := by
  unfold ng; rw [← wrap64_n64]; unfold wrap64; have := n64_lo x; have := n64_hi x
  rw [Bool.eq_iff_iff]; simp only [beq_iff_eq, decide_eq_true_eq]; omega
end Go.Proofs.Ythnjppfgdkiaaac
