/-
  TrapReturns: its walk.
-/
import Derived.Test.YtnejdfkmnblfeabTla
namespace Go.Proofs.Ytnejdfkmnblfeab
set_option linter.unusedVariables false
open Go.ChangeShapes Go.WideShapes Go.ChangeAt Go.RowKit Go.Deep
set_option maxRecDepth 100000 in
set_option maxHeartbeats 1000000 in
theorem treturns_walk (hc : TRt) (k : Cp) (w : World) :
    Calls Try.prog 4 #[.agg (cpc k)] w fun e w' => e = .returned (.bool true) ∧ Below w.heap.size w w' := by
  have hz := zero_cpu
  obtain ⟨W0, hW0, r0, b0, s0⟩ := start1 w (cpc k) 31
  have hlt : Hid (w.heap.size < W0.heap.size) := by unfold Hid; omega
  clear s0
  have hA : Hid (∀ W : World, Calls Try.prog 11 #[.agg (cpc k)] W fun e w' => e = .returned (.tuple #[.agg (cpc (RTc k)), .bool (RTk k)]) ∧ Below W.heap.size W w') := hc k
  have hB : Hid (∀ W : World, Calls Try.prog 12 #[.agg (cpc k)] W fun e w' => e = .returned (.tuple #[.agg (cpc (RTc k)), .bool (RTk k)]) ∧ Below W.heap.size W w') := rReturn_c k
  have heq : ∀ W, (Op.equalIn 10000 31 (.agg (cpc (RTc k))) (.agg (cpc (RTc k)))).run Try.prog W = .ok true W := fun W => eq_cpu W _
  generalize RTc k = p2 at hA hB heq
  generalize RTk k = z2 at hA hB
  have ez : (z2 == z2) = true := by simp
  have R0 : Hid (Row W0 w.heap.size (cpc k) 31) := r0.out
  clear r0
  go_enter Try.func4, Try.ntmps4
  go_upto_region 1 with fail
  clear hW0
  go_upto_region 2 with (first | (refine wpList_load_row (by rfl) _ _ (by rfl) _ (by rfl) 31 _ (0, 0) _ R0.out Try.underlying31 (by rfl) (info_cpu _) ?_) | (go_at_call 11; refine (hA.out _).mono ?_; rintro e w1 ⟨rfl, hb⟩; have Bw1 : Hid (Below W0.heap.size W0 w1) := hb; clear hb) | (refine wpList_store_last (by rfl) _ _ _ (by rfl) (by rfl) _ _ _ (by rfl) (by rfl) (by rfl) (info_cpu _) (by rw [cpc_size, cpc_size]) (cpc_ones _) ?_))
  refine go_onP (motive := fun W => Code.wp _ _ _ _ W) (Q := fun W => Row W w.heap.size (cpc k) 31 ∧ Row W w1.heap.size (cpc p2) 31 ∧ Below W0.heap.size W0 W) ⟨R0.out.ca Bw1.out _, Row.new w1 (cpc p2) 31, Bw1.out.alloc Bw1.out.size _⟩ ?_
  clear R0 Bw1 hA
  rintro W1 ⟨q0, q1, c0⟩
  have R0 : Hid (Row W1 w.heap.size (cpc k) 31) := q0
  have R1 : Hid (Row W1 w1.heap.size (cpc p2) 31) := q1
  have BB : Hid (Below W0.heap.size W0 W1) := c0
  clear q0 q1 c0
  go_upto_region 3 with (first | (refine wpList_load_row (by rfl) _ _ (by rfl) _ (by rfl) 31 _ (0, 0) _ R0.out Try.underlying31 (by rfl) (info_cpu _) ?_) | (go_at_call 12; refine (hB.out _).mono ?_; rintro e w2 ⟨rfl, hb⟩; have Bw2 : Hid (Below W1.heap.size W1 w2) := hb; clear hb) | (refine wpList_store_last (by rfl) _ _ _ (by rfl) (by rfl) _ _ _ (by rfl) (by rfl) (by rfl) (info_cpu _) (by rw [cpc_size, cpc_size]) (cpc_ones _) ?_))
  refine go_onP (motive := fun W => Code.wp _ _ _ _ W) (Q := fun W => Row W w.heap.size (cpc k) 31 ∧ Row W w1.heap.size (cpc p2) 31 ∧ Row W w2.heap.size (cpc p2) 31 ∧ Below W0.heap.size W0 W) ⟨R0.out.ca Bw2.out _, R1.out.ca Bw2.out _, Row.new w2 (cpc p2) 31, (BB.out.trans (Bw2.out.mono BB.out.size)).alloc (Nat.le_trans BB.out.size Bw2.out.size) _⟩ ?_
  clear R0 R1 BB Bw2 hB hz
  rintro W2 ⟨q0, q1, q2, c0⟩
  have R0 : Hid (Row W2 w.heap.size (cpc k) 31) := q0
  have R1 : Hid (Row W2 w1.heap.size (cpc p2) 31) := q1
  have R2 : Hid (Row W2 w2.heap.size (cpc p2) 31) := q2
  have BB : Hid (Below W0.heap.size W0 W2) := c0
  clear q0 q1 q2 c0
  go_wp2_with (first | (refine wpList_load_row (by rfl) _ _ (by rfl) _ (by rfl) 31 _ (0, 0) _ R1.out Try.underlying31 (by rfl) (info_cpu _) ?_) | (refine wpList_load_row (by rfl) _ _ (by rfl) _ (by rfl) 31 _ (0, 0) _ R2.out Try.underlying31 (by rfl) (info_cpu _) ?_))
  go_ret
  exact ⟨rfl, b0.out.trans (BB.out.mono (Nat.le_of_lt hlt.out))⟩
end Go.Proofs.Ytnejdfkmnblfeab
