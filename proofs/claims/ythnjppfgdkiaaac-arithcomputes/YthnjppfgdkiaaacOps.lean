/-
  The table that Compute looks into, and Compute and op out of the contract of the function that the table names.
-/
import Derived.Test.YthnjppfgdkiaaacBase
namespace Go.Proofs.Ythnjppfgdkiaaac
open Go.ChangeShapes Go.WideShapes Go.ChangeAt Go.RowKit

def opsTab : Array Value := #[.nilFunc, .nilFunc, .nilFunc, .nilFunc, .nilFunc, .nilFunc, .nilFunc, .nilFunc, .nilFunc, .nilFunc, .nilFunc, .nilFunc, .nilFunc, .nilFunc, .nilFunc, .nilFunc, .nilFunc, .nilFunc, .nilFunc, .nilFunc, .nilFunc, .nilFunc, fv 29, fv 34, fv 35, fv 36, fv 37, fv 38, fv 31, fv 32, fv 33, fv 39, fv 41, fv 42, fv 43, fv 29, fv 30, fv 31, fv 34, fv 35, fv 36, fv 32, fv 33, fv 37, fv 38, fv 39, fv 40, fv 41, fv 42, fv 43, .nilFunc, .nilFunc, .nilFunc, .nilFunc, .nilFunc, .nilFunc, .nilFunc, .nilFunc, .nilFunc, .nilFunc, .nilFunc, .nilFunc, fv 44, fv 45, fv 46, fv 47, fv 48, fv 49, fv 50, fv 51, fv 52, fv 53, fv 54, fv 55, fv 56, .nilFunc, .nilFunc, .nilFunc, .nilFunc, .nilFunc, .nilFunc, .nilFunc, .nilFunc, .nilFunc, .nilFunc, .nilFunc, .nilFunc, .nilFunc, .nilFunc, .nilFunc, .nilFunc, .nilFunc, .nilFunc, .nilFunc, .nilFunc, .nilFunc, .nilFunc]

theorem opsSize : (Try.prog.info? 41).map (·.size) = some opsTab.size := by kernel_rfl
theorem opsZero : Try.zeroCells41.size = opsTab.size := by kernel_rfl
theorem opsOne : opsTab.all (·.oneCell') = true := by kernel_rfl

theorem operations_any (w : World) : Calls Try.prog 18 #[] w fun e w' => e = .returned (.agg opsTab) ∧ w' = w.alloc (.cells opsTab 41) := by
  go_enter Try.func18, Try.ntmps18
  go_wp2_with (first
    | (refine wpList_build_tab (by rfl) 41 _ (by rfl) opsTab (by kernel_rfl) ?_)
    | (refine wpList_store_new (by rfl) 41 _ _ (by rfl) (by rfl) Try.zeroCells41 opsTab (by rfl) (by rfl) opsSize opsZero opsOne ?_))
  exact bodyPost_ret (v := .agg opsTab) (results_cell_row Try.results18 _ _ w.heap.size 41 opsTab (0, 0) _ (by rfl) (heap_alloc_last w _) Try.underlying41 (by rfl) opsSize) rfl ⟨rfl, rfl⟩

theorem opsField (f : Nat) (w : World) : (Instr.field 40 (.agg #[.func (.func f) #[] #[]]) 0).run Try.prog w = .ok (.func (.func f) #[] #[]) w := by kernel_rfl

theorem opsNotNil (f : Nat) (w : World) : (binOp .eql 38 (.func (.func f) #[] #[]) .nilFunc).run Try.prog w = .ok (.bool false) w := by kernel_rfl

/-- Compute at a number whose place in the table names the function f. -/
theorem compute_of (k : Int) (f : Nat) (a b r : Int) (w : World) (h0 : 0 ≤ k) (h1 : k < 97)
    (hidx : ∀ w, (Instr.index 41 (.agg opsTab) (.int .i64 k)).run Try.prog w = .ok (.agg #[.func (.func f) #[] #[]]) w)
    (hcf : ∀ w, (callFunc f #[.int .u64 a, .int .u64 b]).run Try.prog w = .ok (.enter f #[.int .u64 a, .int .u64 b]) w)
    (hf : ∀ w, Calls Try.prog f #[.int .u64 a, .int .u64 b] w fun e w' => e = .returned (.int .u64 r) ∧ w' = w) :
    Calls Try.prog 12 #[.int .i64 k, .int .u64 a, .int .u64 b] w fun e w' => e = .returned (.tuple #[.int .u64 r, .bool true]) ∧ Below w.heap.size w w' := by
  have hfld := opsField f
  have hnil := opsNotNil f
  go_enter Try.func12, Try.ntmps12
  go_wp2_with fail
  refine (operations_any _).mono ?_
  rintro e w' ⟨rfl, rfl⟩
  go_wp2_with fail
  refine (hf _).mono ?_
  rintro e w' ⟨rfl, rfl⟩
  go_wp2_with fail
  go_ret2
  exact ⟨rfl, (Below.refl _ _).alloc (Nat.le_refl _) _⟩

/-- op at such a number. -/
theorem op_of (k : Int) (a b r : Int) (w : World)
    (hc : ∀ w, Calls Try.prog 12 #[.int .i64 k, .int .u64 a, .int .u64 b] w fun e w' => e = .returned (.tuple #[.int .u64 r, .bool true]) ∧ Below w.heap.size w w') :
    Calls Try.prog 9 #[.int .i64 k, .int .u64 a, .int .u64 b] w fun e w' => e = .returned (.int .u64 r) ∧ Below w.heap.size w w' := by
  go_enter Try.func9, Try.ntmps9
  go_wp2_with fail
  refine (hc _).mono ?_
  rintro e w' ⟨rfl, hb⟩
  go_wp2_with fail
  go_ret
  exact ⟨rfl, hb⟩

end Go.Proofs.Ythnjppfgdkiaaac
