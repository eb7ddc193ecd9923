/-
  The registers' methods.
-/
import Derived.Test.YtgbkdjfghlhenabCsa
import Derived.Test.YtgbkdjfghlhenabQtl
import Derived.Test.YtgbkdjfghlhenabClb
import Derived.Laws.EntriesVeiled
namespace Go.Proofs.Ytgbkdjfghlhenab
set_option linter.unusedVariables false
open Go.ChangeShapes Go.WideShapes Go.ChangeAt Go.RowKit Go.Deep
/-- How a register is read and written: two functions bound to one value. -/
def rgv (r t : Nat) (x : Value) : Value := .agg #[.func (.func r) #[x] #[], .func (.func t) #[x] #[]]
theorem info_rg : (Try.prog.info? 59).map (·.size) = some 2 := by kernel_rfl
set_option maxRecDepth 100000 in
theorem toldReg_c (n : Int) (w : World) : Calls Try.prog 45 #[.int .u64 n] w fun e w' => e = .returned (rgv 52 53 (.int .u64 n)) ∧ Below w.heap.size w w' := by
  go_enter Try.func45, Try.ntmps45
  go_wp2
  refine bodyPost_ret (v := rgv 52 53 (.int .u64 n)) ?_ rfl ⟨rfl, ?_⟩
  · exact results_cell_row Try.results45 _ _ (w.heap.size) 59 _ (0, 0) _ (by rfl) (heap_alloc_new w _) Try.underlying59 (by rfl) info_rg
  · exact (Below.refl _ _).alloc (Nat.le_refl _) _
set_option maxRecDepth 100000 in
theorem statusReg_c (p : Addr) (w : World) : Calls Try.prog 44 #[.agg #[.pointer (some p)]] w fun e w' => e = .returned (rgv 50 51 (.agg #[.pointer (some p)])) ∧ Below w.heap.size w w' := by
  go_enter Try.func44, Try.ntmps44
  go_wp2
  refine bodyPost_ret (v := rgv 50 51 (.agg #[.pointer (some p)])) ?_ rfl ⟨rfl, ?_⟩
  · exact results_cell_row Try.results44 _ _ (w.heap.size + 1) 59 _ (0, 0) _ (by rfl) (by simpa using heap_alloc_new (w.alloc _) _) Try.underlying59 (by rfl) info_rg
  · exact ((Below.refl _ _).alloc (Nat.le_refl _) _).alloc (by simp) _
set_option maxRecDepth 100000 in
theorem wordReg_c (p : Addr) (n : Int) (w : World) : Calls Try.prog 46 #[.agg #[.pointer (some p), .int .u64 n]] w fun e w' => e = .returned (rgv 54 55 (.agg #[.pointer (some p), .int .u64 n])) ∧ Below w.heap.size w w' := by
  go_enter Try.func46, Try.ntmps46
  go_wp2
  refine bodyPost_ret (v := rgv 54 55 (.agg #[.pointer (some p), .int .u64 n])) ?_ rfl ⟨rfl, ?_⟩
  · exact results_cell_row Try.results46 _ _ (w.heap.size + 1) 59 _ (0, 0) _ (by rfl) (by simpa using heap_alloc_new (w.alloc _) _) Try.underlying59 (by rfl) info_rg
  · exact ((Below.refl _ _).alloc (Nat.le_refl _) _).alloc (by simp) _
set_option maxRecDepth 100000 in
theorem configReg_c (p : Addr) (n : Int) (w : World) : Calls Try.prog 47 #[.agg #[.pointer (some p), .int .i64 n]] w fun e w' => e = .returned (rgv 56 57 (.agg #[.pointer (some p), .int .i64 n])) ∧ Below w.heap.size w w' := by
  go_enter Try.func47, Try.ntmps47
  go_wp2
  refine bodyPost_ret (v := rgv 56 57 (.agg #[.pointer (some p), .int .i64 n])) ?_ rfl ⟨rfl, ?_⟩
  · exact results_cell_row Try.results47 _ _ (w.heap.size + 1) 59 _ (0, 0) _ (by rfl) (by simpa using heap_alloc_new (w.alloc _) _) Try.underlying59 (by rfl) info_rg
  · exact ((Below.refl _ _).alloc (Nat.le_refl _) _).alloc (by simp) _
set_option maxRecDepth 100000 in
theorem addressReg_c (p : Addr) (n : Int) (w : World) : Calls Try.prog 48 #[.agg #[.pointer (some p), .int .i64 n]] w fun e w' => e = .returned (rgv 58 59 (.agg #[.pointer (some p), .int .i64 n])) ∧ Below w.heap.size w w' := by
  go_enter Try.func48, Try.ntmps48
  go_wp2
  refine bodyPost_ret (v := rgv 58 59 (.agg #[.pointer (some p), .int .i64 n])) ?_ rfl ⟨rfl, ?_⟩
  · exact results_cell_row Try.results48 _ _ (w.heap.size + 1) 59 _ (0, 0) _ (by rfl) (by simpa using heap_alloc_new (w.alloc _) _) Try.underlying59 (by rfl) info_rg
  · exact ((Below.refl _ _).alloc (Nat.le_refl _) _).alloc (by simp) _
end Go.Proofs.Ytgbkdjfghlhenab
