/-
  The registers' methods.
-/
import Derived.Test.YtnnkeodiacdmaaaCsa
import Derived.Test.YtnnkeodiacdmaaaQtl
import Derived.Test.YtnnkeodiacdmaaaClb
import Derived.Laws.EntriesVeiled
namespace Go.Proofs.Ytnnkeodiacdmaaa
set_option linter.unusedVariables false
open Go.ChangeShapes Go.WideShapes Go.ChangeAt Go.RowKit Go.Deep
/-- How a register is read and written: two functions bound to one value. -/
def rgv (r t : Nat) (x : Value) : Value := .agg #[.func (.func r) #[x] #[], .func (.func t) #[x] #[]]
theorem info_rg : (Try.prog.info? 62).map (·.size) = some 2 := by kernel_rfl
set_option maxRecDepth 100000 in
theorem toldReg_c (n : Int) (w : World) : Calls Try.prog 41 #[.int .u64 n] w fun e w' => e = .returned (rgv 47 48 (.int .u64 n)) ∧ Below w.heap.size w w' := by
  go_enter Try.func41, Try.ntmps41
  go_wp2
  refine bodyPost_ret (v := rgv 47 48 (.int .u64 n)) ?_ rfl ⟨rfl, ?_⟩
  · exact results_cell_row Try.results41 _ _ (w.heap.size) 62 _ (0, 0) _ (by rfl) (heap_alloc_new w _) Try.underlying62 (by rfl) info_rg
  · exact (Below.refl _ _).alloc (Nat.le_refl _) _
set_option maxRecDepth 100000 in
theorem statusReg_c (p : Addr) (w : World) : Calls Try.prog 40 #[.agg #[.pointer (some p)]] w fun e w' => e = .returned (rgv 45 46 (.agg #[.pointer (some p)])) ∧ Below w.heap.size w w' := by
  go_enter Try.func40, Try.ntmps40
  go_wp2
  refine bodyPost_ret (v := rgv 45 46 (.agg #[.pointer (some p)])) ?_ rfl ⟨rfl, ?_⟩
  · exact results_cell_row Try.results40 _ _ (w.heap.size + 1) 62 _ (0, 0) _ (by rfl) (by simpa using heap_alloc_new (w.alloc _) _) Try.underlying62 (by rfl) info_rg
  · exact ((Below.refl _ _).alloc (Nat.le_refl _) _).alloc (by simp) _
set_option maxRecDepth 100000 in
theorem wordReg_c (p : Addr) (n : Int) (w : World) : Calls Try.prog 42 #[.agg #[.pointer (some p), .int .u64 n]] w fun e w' => e = .returned (rgv 49 50 (.agg #[.pointer (some p), .int .u64 n])) ∧ Below w.heap.size w w' := by
  go_enter Try.func42, Try.ntmps42
  go_wp2
  refine bodyPost_ret (v := rgv 49 50 (.agg #[.pointer (some p), .int .u64 n])) ?_ rfl ⟨rfl, ?_⟩
  · exact results_cell_row Try.results42 _ _ (w.heap.size + 1) 62 _ (0, 0) _ (by rfl) (by simpa using heap_alloc_new (w.alloc _) _) Try.underlying62 (by rfl) info_rg
  · exact ((Below.refl _ _).alloc (Nat.le_refl _) _).alloc (by simp) _
set_option maxRecDepth 100000 in
theorem configReg_c (p : Addr) (n : Int) (w : World) : Calls Try.prog 43 #[.agg #[.pointer (some p), .int .i64 n]] w fun e w' => e = .returned (rgv 51 52 (.agg #[.pointer (some p), .int .i64 n])) ∧ Below w.heap.size w w' := by
  go_enter Try.func43, Try.ntmps43
  go_wp2
  refine bodyPost_ret (v := rgv 51 52 (.agg #[.pointer (some p), .int .i64 n])) ?_ rfl ⟨rfl, ?_⟩
  · exact results_cell_row Try.results43 _ _ (w.heap.size + 1) 62 _ (0, 0) _ (by rfl) (by simpa using heap_alloc_new (w.alloc _) _) Try.underlying62 (by rfl) info_rg
  · exact ((Below.refl _ _).alloc (Nat.le_refl _) _).alloc (by simp) _
set_option maxRecDepth 100000 in
theorem addressReg_c (p : Addr) (n : Int) (w : World) : Calls Try.prog 44 #[.agg #[.pointer (some p), .int .i64 n]] w fun e w' => e = .returned (rgv 53 54 (.agg #[.pointer (some p), .int .i64 n])) ∧ Below w.heap.size w w' := by
  go_enter Try.func44, Try.ntmps44
  go_wp2
  refine bodyPost_ret (v := rgv 53 54 (.agg #[.pointer (some p), .int .i64 n])) ?_ rfl ⟨rfl, ?_⟩
  · exact results_cell_row Try.results44 _ _ (w.heap.size + 1) 62 _ (0, 0) _ (by rfl) (by simpa using heap_alloc_new (w.alloc _) _) Try.underlying62 (by rfl) info_rg
  · exact ((Below.refl _ _).alloc (Nat.le_refl _) _).alloc (by simp) _
end Go.Proofs.Ytnnkeodiacdmaaa
