/-
  The table that Compute looks into, and Compute and op out of the contract of the function that the table names.
-/
import Derived.Test.YthnjppfgdkiaaaaBase
namespace Go.Proofs.Ythnjppfgdkiaaaa
open Go.ChangeShapes Go.WideShapes Go.ChangeAt Go.RowKit

def opsTab : Array Value := #[.nilFunc, .nilFunc, .nilFunc, .nilFunc, .nilFunc, .nilFunc, .nilFunc, .nilFunc, .nilFunc, .nilFunc, .nilFunc, .nilFunc, .nilFunc, .nilFunc, .nilFunc, .nilFunc, .nilFunc, .nilFunc, .nilFunc, .nilFunc, .nilFunc, .nilFunc, fv 58, fv 72, fv 73, fv 59, fv 61, fv 60, fv 69, fv 70, fv 71, fv 74, fv 76, fv 77, fv 78, fv 58, fv 68, fv 69, fv 72, fv 73, fv 59, fv 70, fv 71, fv 61, fv 60, fv 74, fv 75, fv 76, fv 77, fv 78, .nilFunc, .nilFunc, .nilFunc, .nilFunc, .nilFunc, .nilFunc, .nilFunc, .nilFunc, .nilFunc, .nilFunc, .nilFunc, .nilFunc, fv 79, fv 80, fv 81, fv 82, fv 83, fv 84, fv 85, fv 86, fv 87, fv 88, fv 89, fv 90, fv 91, .nilFunc, .nilFunc, .nilFunc, .nilFunc, .nilFunc, .nilFunc, .nilFunc, .nilFunc, .nilFunc, .nilFunc, .nilFunc, .nilFunc, .nilFunc, .nilFunc, .nilFunc, .nilFunc, .nilFunc, .nilFunc, .nilFunc, .nilFunc, .nilFunc, .nilFunc]

theorem opsSize : (Try.prog.info? 74).map (·.size) = some opsTab.size := by kernel_rfl
theorem opsZero : Try.zeroCells74.size = opsTab.size := by kernel_rfl
theorem opsOne : opsTab.all (·.oneCell') = true := by kernel_rfl

theorem operations_any (w : World) : Calls Try.prog 67 #[] w fun e w' => e = .returned (.agg opsTab) ∧ w' = w.alloc (.cells opsTab 74) := by
  go_enter Try.func67, Try.ntmps67
  go_wp2_with (first
    | (refine wpList_build_tab (by rfl) 74 _ (by rfl) opsTab (by kernel_rfl) ?_)
    | (refine wpList_store_new (by rfl) 74 _ _ (by rfl) (by rfl) Try.zeroCells74 opsTab (by rfl) (by rfl) opsSize opsZero opsOne ?_))
  exact bodyPost_ret (v := .agg opsTab) (results_cell_row Try.results67 _ _ w.heap.size 74 opsTab (0, 0) _ (by rfl) (heap_alloc_last w _) Try.underlying74 (by rfl) opsSize) rfl ⟨rfl, rfl⟩

theorem opsField (f : Nat) (w : World) : (Instr.field 73 (.agg #[.func (.func f) #[] #[]]) 0).run Try.prog w = .ok (.func (.func f) #[] #[]) w := by kernel_rfl

theorem opsNotNil (f : Nat) (w : World) : (binOp .eql 59 (.func (.func f) #[] #[]) .nilFunc).run Try.prog w = .ok (.bool false) w := by kernel_rfl

/-- Compute at a number whose place in the table names the function f. -/
theorem compute_of (k : Int) (f : Nat) (a b r : Int) (w : World) (h0 : 0 ≤ k) (h1 : k < 97)
    (hidx : ∀ w, (Instr.index 74 (.agg opsTab) (.int .i64 k)).run Try.prog w = .ok (.agg #[.func (.func f) #[] #[]]) w)
    (hcf : ∀ w, (callFunc f #[.int .u64 a, .int .u64 b]).run Try.prog w = .ok (.enter f #[.int .u64 a, .int .u64 b]) w)
    (hf : ∀ w, Calls Try.prog f #[.int .u64 a, .int .u64 b] w fun e w' => e = .returned (.int .u64 r) ∧ w' = w) :
    Calls Try.prog 47 #[.int .i64 k, .int .u64 a, .int .u64 b] w fun e w' => e = .returned (.tuple #[.int .u64 r, .bool true]) ∧ Below w.heap.size w w' := by
  have hfld := opsField f
  have hnil := opsNotNil f
  go_enter Try.func47, Try.ntmps47
  go_wp2_with fail
  refine (operations_any _).mono ?_
  rintro e w' ⟨rfl, rfl⟩
  go_wp2_with fail
  refine (hf _).mono ?_
  rintro e w' ⟨rfl, rfl⟩
  go_wp2_with fail
  go_ret2
  exact ⟨rfl, (Below.refl _ _).alloc (Nat.le_refl _) _⟩

/-- op at such a number. -/
theorem op_of (k : Int) (a b r : Int) (w : World)
    (hc : ∀ w, Calls Try.prog 47 #[.int .i64 k, .int .u64 a, .int .u64 b] w fun e w' => e = .returned (.tuple #[.int .u64 r, .bool true]) ∧ Below w.heap.size w w') :
    Calls Try.prog 29 #[.int .i64 k, .int .u64 a, .int .u64 b] w fun e w' => e = .returned (.int .u64 r) ∧ Below w.heap.size w w' := by
  go_enter Try.func29, Try.ntmps29
  go_wp2_with fail
  refine (hc _).mono ?_
  rintro e w' ⟨rfl, hb⟩
  go_wp2_with fail
  go_ret
  exact ⟨rfl, hb⟩

end Go.Proofs.Ythnjppfgdkiaaaa
