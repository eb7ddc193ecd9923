/-
  The law's own 'taken', at an answer that is known.
-/
import Derived.Test.YthnjppfgdkiaaabBrs
namespace Go.Proofs.Ythnjppfgdkiaaab
open Go.ChangeShapes Go.WideShapes Go.ChangeAt Go.RowKit
theorem tk_of (k : Int) (a b : Int) (r : Bool) (w : World)
    (hc : ∀ w, Calls Try.prog 23 #[.int .i64 k, .int .u64 a, .int .u64 b] w fun e w' => e = .returned (.tuple #[.bool r, .bool true]) ∧ Below w.heap.size w w') :
    Calls Try.prog 18 #[.int .i64 k, .int .u64 a, .int .u64 b] w fun e w' => e = .returned (.bool r) ∧ Below w.heap.size w w' := by
  go_enter Try.func18, Try.ntmps18
  go_wp2_with fail
  refine (hc _).mono ?_
  rintro e w' ⟨rfl, hb⟩
  go_wp2_with fail
  go_ret
  exact ⟨rfl, hb⟩
theorem tk_1 (x y : BitVec 64) (v : Bool) (h : eqB x y = v) (w : World) : Calls Try.prog 18 #[.int .i64 5, .int .u64 (n64 x), .int .u64 (n64 y)] w fun e w' => e = .returned (.bool v) ∧ Below w.heap.size w w' := by
  subst h; exact tk_of 5 _ _ _ w (fun w => t_1 x y w)
theorem tk_2 (x y : BitVec 64) (v : Bool) (h : eqB x y = v) (w : World) : Calls Try.prog 18 #[.int .i64 6, .int .u64 (n64 x), .int .u64 (n64 y)] w fun e w' => e = .returned (.bool (!v)) ∧ Below w.heap.size w w' := by
  subst h; exact tk_of 6 _ _ _ w (fun w => t_2 x y w)
theorem tk_3 (x y : BitVec 64) (v : Bool) (h : sLt x y = v) (w : World) : Calls Try.prog 18 #[.int .i64 7, .int .u64 (n64 x), .int .u64 (n64 y)] w fun e w' => e = .returned (.bool v) ∧ Below w.heap.size w w' := by
  subst h; exact tk_of 7 _ _ _ w (fun w => t_3 x y w)
theorem tk_4 (x y : BitVec 64) (v : Bool) (h : sLt x y = v) (w : World) : Calls Try.prog 18 #[.int .i64 8, .int .u64 (n64 x), .int .u64 (n64 y)] w fun e w' => e = .returned (.bool (!v)) ∧ Below w.heap.size w w' := by
  subst h; exact tk_of 8 _ _ _ w (fun w => t_4 x y w)
theorem tk_5 (x y : BitVec 64) (v : Bool) (h : uLt x y = v) (w : World) : Calls Try.prog 18 #[.int .i64 9, .int .u64 (n64 x), .int .u64 (n64 y)] w fun e w' => e = .returned (.bool v) ∧ Below w.heap.size w w' := by
  subst h; exact tk_of 9 _ _ _ w (fun w => t_5 x y w)
theorem tk_6 (x y : BitVec 64) (v : Bool) (h : uLt x y = v) (w : World) : Calls Try.prog 18 #[.int .i64 10, .int .u64 (n64 x), .int .u64 (n64 y)] w fun e w' => e = .returned (.bool (!v)) ∧ Below w.heap.size w w' := by
  subst h; exact tk_of 10 _ _ _ w (fun w => t_6 x y w)
end Go.Proofs.Ythnjppfgdkiaaab
