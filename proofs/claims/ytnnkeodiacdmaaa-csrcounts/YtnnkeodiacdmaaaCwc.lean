/-
  CsrCounts: its walk.
-/
import Derived.Test.YtnnkeodiacdmaaaCla
namespace Go.Proofs.Ytnnkeodiacdmaaa
set_option linter.unusedVariables false
open Go.ChangeShapes Go.WideShapes Go.ChangeAt Go.RowKit Go.Deep
set_option maxRecDepth 100000 in
set_option maxHeartbeats 1000000 in
theorem ccounts_walk (hc : CCo) (k u : Cp) (r c m : Bool) (w : World) :
    Calls Try.prog 5 #[.agg (tly k u r c m)] w fun e w' => e = .returned (.bool true) ∧ Below w.heap.size w w' := by
  obtain ⟨W0, hW0, r0, b0, s0⟩ := start1 w (tly k u r c m) 33
  have hlt : Hid (w.heap.size < W0.heap.size) := by unfold Hid; omega
  clear s0
  have := later_nonempty W0
  have hA : Hid (∀ W : World, Calls Try.prog 10 #[.agg (cpc k), .agg (cpc u), .bool r, .bool c, .bool m] W fun e w' => e = .returned (.agg (cpc (CO k u r c m))) ∧ Below W.heap.size W w') := hc k u r c m
  have hB : Hid (∀ W : World, Calls Try.prog 12 #[.agg (cpc k), .agg (cpc u), .bool r, .bool c, .bool m] W fun e w' => e = .returned (.agg (cpc (CO k u r c m))) ∧ Below W.heap.size W w') := rCount_c k u r c m
  have heq : ∀ W, (Op.equalIn 10000 31 (.agg (cpc (CO k u r c m))) (.agg (cpc (CO k u r c m)))).run Try.prog W = .ok true W := fun W => eq_cpu W _
  have HL : Hid (∀ j v, (cpc k)[j]? = some v → W0.cell? ⟨w.heap.size, 0 + j, none⟩ = some v) := r0.out.tly.1.agg
  have HU : Hid (∀ j v, (cpc u)[j]? = some v → W0.cell? ⟨w.heap.size, 82 + j, none⟩ = some v) := r0.out.tly.2.1.agg
  have e1 := later_at hlt.out r0.out.tly.2.2.1
  have e2 := later_at hlt.out r0.out.tly.2.2.2.1
  have e3 := later_at hlt.out r0.out.tly.2.2.2.2
  generalize CO k u r c m = p2 at hA hB heq
  go_enter Try.func5, Try.ntmps5
  go_upto_region 1 with fail
  clear hW0 r0
  refine wp_region_later (x0 := Later.start W0) (by kernel_rfl) (by kernel_rfl) ?_
  repeat (first | (refine BigFrame.wpQuiet_want (by rfl) fun K hK => ?_; refine quiet_load_agg 31 _ (by rfl) w.heap.size 0 (by rfl) (cpc k) _ hlt.out HL.out Try.underlying31 (by rfl) (info_cpu _) (hK _ ?_); clear hK K; simp only [Act.put, List.setIfInBounds_toArray, List.set_cons_succ, List.set_cons_zero]) | (refine BigFrame.wpQuiet_want (by rfl) fun K hK => ?_; refine quiet_load_agg 31 _ (by rfl) w.heap.size 82 (by rfl) (cpc u) _ hlt.out HU.out Try.underlying31 (by rfl) (info_cpu _) (hK _ ?_); clear hK K; simp only [Act.put, List.setIfInBounds_toArray, List.set_cons_succ, List.set_cons_zero]) | (go_big_quiet_step (first | (go_at_call 10; exact calls_later (hA.out _)) | (go_at_call 12; exact calls_later (hB.out _)))))
  refine wpQuiet_nil ?_
  rintro w' ⟨x9, rfl⟩
  go_wp2
  go_ret
  exact ⟨rfl, b0.out.trans (x9.below.mono (Nat.le_of_lt hlt.out))⟩
end Go.Proofs.Ytnnkeodiacdmaaa
