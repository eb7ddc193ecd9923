/-
  TrapPends: its walk.
-/
import Derived.Test.YtnejdfkmnblfeaaTla
namespace Go.Proofs.Ytnejdfkmnblfeaa
set_option linter.unusedVariables false
open Go.ChangeShapes Go.WideShapes Go.ChangeAt Go.RowKit Go.Deep
set_option maxRecDepth 100000 in
set_option maxHeartbeats 1000000 in
theorem tpends_walk (hc : TPd) (k : Cp) (mip : BitVec 64) (w : World) :
    Calls Try.prog 3 #[.agg (cpc k), .int .u64 (n64 mip)] w fun e w' => e = .returned (.bool true) ∧ Below w.heap.size w w' := by
  obtain ⟨W0, hW0, r0, b0, s0⟩ := start1 w (cpc k) 31
  have hlt : Hid (w.heap.size < W0.heap.size) := by unfold Hid; omega
  clear s0
  have hA : Hid (∀ W : World, Calls Try.prog 9 #[.agg (cpc k), .int .u64 (n64 mip)] W fun e w' => e = .returned (.tuple #[.int .i64 (PD k mip).1, .bool (PD k mip).2]) ∧ Below W.heap.size W w') := hc k mip
  have hB : Hid (∀ W : World, Calls Try.prog 10 #[.agg (cpc k), .int .u64 (n64 mip)] W fun e w' => e = .returned (.tuple #[.int .i64 (PD k mip).1, .bool (PD k mip).2]) ∧ Below W.heap.size W w') := rPending_c k mip
  generalize (PD k mip).1 = z1 at hA hB
  generalize (PD k mip).2 = z2 at hA hB
  have e1 : (z1 == z1) = true := by simp
  have e2 : (z2 == z2) = true := by simp
  go_enter Try.func3, Try.ntmps3
  go_upto_region 1 with fail
  clear hW0
  go_upto_region 2 with (first | (refine wpList_load_row (by rfl) _ _ (by rfl) _ (by rfl) 31 _ (0, 0) _ r0.out Try.underlying31 (by rfl) (info_cpu _) ?_) | (go_at_call 9; refine (hA.out _).mono ?_; rintro e w1 ⟨rfl, hb⟩; have Bw1 : Hid (Below W0.heap.size W0 w1) := hb; clear hb))
  have R1 : Hid (Row w1 w.heap.size (cpc k) 31) := r0.out.cb Bw1.out
  go_upto_region 3 with (first | (refine wpList_load_row (by rfl) _ _ (by rfl) _ (by rfl) 31 _ (0, 0) _ R1.out Try.underlying31 (by rfl) (info_cpu _) ?_) | (go_at_call 10; refine (hB.out _).mono ?_; rintro e w2 ⟨rfl, hb⟩; have Bw2 : Hid (Below w1.heap.size w1 w2) := hb; clear hb))
  go_wp2
  go_ret
  exact ⟨rfl, b0.out.trans ((Bw1.out.trans (Bw2.out.mono Bw1.out.size)).mono (Nat.le_of_lt hlt.out))⟩
end Go.Proofs.Ytnejdfkmnblfeaa
