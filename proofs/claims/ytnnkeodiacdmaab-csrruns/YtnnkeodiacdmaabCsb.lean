/-
  The registers' methods.
-/
import Derived.Test.YtnnkeodiacdmaabCsa
import Derived.Test.YtnnkeodiacdmaabQtl
import Derived.Test.YtnnkeodiacdmaabClb
import Derived.Laws.EntriesVeiled
namespace Go.Proofs.Ytnnkeodiacdmaab
set_option linter.unusedVariables false
open Go.ChangeShapes Go.WideShapes Go.ChangeAt Go.RowKit Go.Deep
/-- How a register is read and written: two functions bound to one value. -/
def rgv (r t : Nat) (x : Value) : Value := .agg #[.func (.func r) #[x] #[], .func (.func t) #[x] #[]]
theorem info_rg : (Try.prog.info? 59).map (·.size) = some 2 := by kernel_rfl
set_option maxRecDepth 100000 in
theorem toldReg_c (n : Int) (w : World) : Calls Try.prog 46 #[.int .u64 n] w fun e w' => e = .returned (rgv 53 54 (.int .u64 n)) ∧ Below w.heap.size w w' := by
  go_enter Try.func46, Try.ntmps46
  go_wp2
  refine bodyPost_ret (v := rgv 53 54 (.int .u64 n)) ?_ rfl ⟨rfl, ?_⟩
  · exact results_cell_row Try.results46 _ _ (w.heap.size) 59 _ (0, 0) _ (by rfl) (heap_alloc_new w _) Try.underlying59 (by rfl) info_rg
  · exact (Below.refl _ _).alloc (Nat.le_refl _) _
set_option maxRecDepth 100000 in
theorem statusReg_c (p : Addr) (w : World) : Calls Try.prog 45 #[.agg #[.pointer (some p)]] w fun e w' => e = .returned (rgv 51 52 (.agg #[.pointer (some p)])) ∧ Below w.heap.size w w' := by
  go_enter Try.func45, Try.ntmps45
  go_wp2
  refine bodyPost_ret (v := rgv 51 52 (.agg #[.pointer (some p)])) ?_ rfl ⟨rfl, ?_⟩
  · exact results_cell_row Try.results45 _ _ (w.heap.size + 1) 59 _ (0, 0) _ (by rfl) (by simpa using heap_alloc_new (w.alloc _) _) Try.underlying59 (by rfl) info_rg
  · exact ((Below.refl _ _).alloc (Nat.le_refl _) _).alloc (by simp) _
set_option maxRecDepth 100000 in
theorem wordReg_c (p : Addr) (n : Int) (w : World) : Calls Try.prog 47 #[.agg #[.pointer (some p), .int .u64 n]] w fun e w' => e = .returned (rgv 55 56 (.agg #[.pointer (some p), .int .u64 n])) ∧ Below w.heap.size w w' := by
  go_enter Try.func47, Try.ntmps47
  go_wp2
  refine bodyPost_ret (v := rgv 55 56 (.agg #[.pointer (some p), .int .u64 n])) ?_ rfl ⟨rfl, ?_⟩
  · exact results_cell_row Try.results47 _ _ (w.heap.size + 1) 59 _ (0, 0) _ (by rfl) (by simpa using heap_alloc_new (w.alloc _) _) Try.underlying59 (by rfl) info_rg
  · exact ((Below.refl _ _).alloc (Nat.le_refl _) _).alloc (by simp) _
set_option maxRecDepth 100000 in
theorem configReg_c (p : Addr) (n : Int) (w : World) : Calls Try.prog 48 #[.agg #[.pointer (some p), .int .i64 n]] w fun e w' => e = .returned (rgv 57 58 (.agg #[.pointer (some p), .int .i64 n])) ∧ Below w.heap.size w w' := by
  go_enter Try.func48, Try.ntmps48
  go_wp2
  refine bodyPost_ret (v := rgv 57 58 (.agg #[.pointer (some p), .int .i64 n])) ?_ rfl ⟨rfl, ?_⟩
  · exact results_cell_row Try.results48 _ _ (w.heap.size + 1) 59 _ (0, 0) _ (by rfl) (by simpa using heap_alloc_new (w.alloc _) _) Try.underlying59 (by rfl) info_rg
  · exact ((Below.refl _ _).alloc (Nat.le_refl _) _).alloc (by simp) _
set_option maxRecDepth 100000 in
theorem addressReg_c (p : Addr) (n : Int) (w : World) : Calls Try.prog 49 #[.agg #[.pointer (some p), .int .i64 n]] w fun e w' => e = .returned (rgv 59 60 (.agg #[.pointer (some p), .int .i64 n])) ∧ Below w.heap.size w w' := by
  go_enter Try.func49, Try.ntmps49
  go_wp2
  refine bodyPost_ret (v := rgv 59 60 (.agg #[.pointer (some p), .int .i64 n])) ?_ rfl ⟨rfl, ?_⟩
  · exact results_cell_row Try.results49 _ _ (w.heap.size + 1) 59 _ (0, 0) _ (by rfl) (by simpa using heap_alloc_new (w.alloc _) _) Try.underlying59 (by rfl) info_rg
  · exact ((Below.refl _ _).alloc (Nat.le_refl _) _).alloc (by simp) _
end Go.Proofs.Ytnnkeodiacdmaab
