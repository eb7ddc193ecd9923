/-
  CsrProper: its walk.
-/
import Derived.Test.YtnnkeodiacdmaaaCla
namespace Go.Proofs.Ytnnkeodiacdmaaa
set_option linter.unusedVariables false
open Go.ChangeShapes Go.WideShapes Go.ChangeAt Go.RowKit Go.Deep
set_option maxRecDepth 100000 in
set_option maxHeartbeats 1000000 in
theorem cproper_walk (hc : CPr) (k : Cp) (w : World) :
    Calls Try.prog 4 #[.agg (cpc k)] w fun e w' => e = .returned (.bool true) ∧ Below w.heap.size w w' := by
  obtain ⟨W0, hW0, r0, b0, s0⟩ := start1 w (cpc k) 31
  have hlt : Hid (w.heap.size < W0.heap.size) := by unfold Hid; omega
  clear s0
  have := later_nonempty W0
  have hA : Hid (∀ W : World, Calls Try.prog 9 #[.agg (cpc k)] W fun e w' => e = .returned (.agg (cpc (PR k))) ∧ Below W.heap.size W w') := hc k
  have hB : Hid (∀ W : World, Calls Try.prog 11 #[.agg (cpc k)] W fun e w' => e = .returned (.agg (cpc (PR k))) ∧ Below W.heap.size W w') := rPr_c k
  have heq : ∀ W, (Op.equalIn 10000 31 (.agg (cpc (PR k))) (.agg (cpc (PR k)))).run Try.prog W = .ok true W := fun W => eq_cpu W _
  have HL : Hid (∀ j v, (cpc k)[j]? = some v → W0.cell? ⟨w.heap.size, 0 + j, none⟩ = some v) := r0.out.cpu.agg
  generalize PR k = p2 at hA hB heq
  go_enter Try.func4, Try.ntmps4
  go_upto_region 1 with fail
  clear hW0
  refine wp_region_later (x0 := Later.start W0) (by kernel_rfl) (by kernel_rfl) ?_
  repeat (first | (refine BigFrame.wpQuiet_want (by rfl) fun K hK => ?_; refine quiet_load_agg 31 _ (by rfl) w.heap.size 0 (by rfl) (cpc k) _ hlt.out HL.out Try.underlying31 (by rfl) (info_cpu _) (hK _ ?_); clear hK K; simp only [Act.put, List.setIfInBounds_toArray, List.set_cons_succ, List.set_cons_zero]) | (go_big_quiet_step (first | (go_at_call 9; exact calls_later (hA.out _)) | (go_at_call 11; exact calls_later (hB.out _)))))
  refine wpQuiet_nil ?_
  rintro w' ⟨x9, rfl⟩
  go_wp2
  go_ret
  exact ⟨rfl, b0.out.trans (x9.below.mono (Nat.le_of_lt hlt.out))⟩
end Go.Proofs.Ytnnkeodiacdmaaa
