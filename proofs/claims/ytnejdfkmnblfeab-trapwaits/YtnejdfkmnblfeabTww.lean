/-
  TrapWaits: its walk.
-/
import Derived.Test.YtnejdfkmnblfeabTla
namespace Go.Proofs.Ytnejdfkmnblfeab
set_option linter.unusedVariables false
open Go.ChangeShapes Go.WideShapes Go.ChangeAt Go.RowKit Go.Deep
set_option maxRecDepth 100000 in
set_option maxHeartbeats 1000000 in
theorem twaits_walk (hc : TWt) (he : TEf) (k : Cp) (w : World) :
    Calls Try.prog 3 #[.agg (cpc k)] w fun e w' => e = .returned (.bool true) ∧ Below w.heap.size w w' := by
  have hz := zero_cpu
  obtain ⟨W0, hW0, r0, b0, s0⟩ := start1 w (cpc k) 31
  have hlt : Hid (w.heap.size < W0.heap.size) := by unfold Hid; omega
  clear s0
  have hA : Hid (∀ W : World, Calls Try.prog 7 #[.agg (cpc k)] W fun e w' => e = .returned (.tuple #[.agg (cpc (WTc k)), .bool (WTk k)]) ∧ Below W.heap.size W w') := hc k
  have hB : Hid (∀ W : World, Calls Try.prog 8 #[.agg (cpc k)] W fun e w' => e = .returned (.tuple #[.agg (cpc (WTc k)), .bool (WTk k)]) ∧ Below W.heap.size W w') := rWait_c k
  have hE : Hid (∀ W : World, Calls Try.prog 9 #[.agg (cpc k)] W fun e w' => e = .returned (.int .i64 (EF k)) ∧ Below W.heap.size W w') := he k
  have hF : Hid (∀ W : World, Calls Try.prog 10 #[.agg (cpc k)] W fun e w' => e = .returned (.int .i64 (EF k)) ∧ Below W.heap.size W w') := rEffective_c k
  generalize EF k = zf at hE hF
  have ef : (zf == zf) = true := by simp
  have heq : ∀ W, (Op.equalIn 10000 31 (.agg (cpc (WTc k))) (.agg (cpc (WTc k)))).run Try.prog W = .ok true W := fun W => eq_cpu W _
  generalize WTc k = p2 at hA hB heq
  generalize WTk k = z2 at hA hB
  have ez : (z2 == z2) = true := by simp
  have R0 : Hid (Row W0 w.heap.size (cpc k) 31) := r0.out
  clear r0
  go_enter Try.func3, Try.ntmps3
  go_upto_region 1 with fail
  clear hW0
  go_upto_region 2 with (first | (refine wpList_load_row (by rfl) _ _ (by rfl) _ (by rfl) 31 _ (0, 0) _ R0.out Try.underlying31 (by rfl) (info_cpu _) ?_) | (go_at_call 7; refine (hA.out _).mono ?_; rintro e w1 ⟨rfl, hb⟩; have Bw1 : Hid (Below W0.heap.size W0 w1) := hb; clear hb) | (refine wpList_store_last (by rfl) _ _ _ (by rfl) (by rfl) _ _ _ (by rfl) (by rfl) (by rfl) (info_cpu _) (by rw [cpc_size, cpc_size]) (cpc_ones _) ?_))
  refine go_onP (motive := fun W => Code.wp _ _ _ _ W) (Q := fun W => Row W w.heap.size (cpc k) 31 ∧ Row W w1.heap.size (cpc p2) 31 ∧ Below W0.heap.size W0 W) ⟨R0.out.ca Bw1.out _, Row.new w1 (cpc p2) 31, Bw1.out.alloc Bw1.out.size _⟩ ?_
  clear R0 Bw1 hA
  rintro W1 ⟨q0, q1, c0⟩
  have R0 : Hid (Row W1 w.heap.size (cpc k) 31) := q0
  have R1 : Hid (Row W1 w1.heap.size (cpc p2) 31) := q1
  have BB : Hid (Below W0.heap.size W0 W1) := c0
  clear q0 q1 c0
  go_upto_region 3 with (first | (refine wpList_load_row (by rfl) _ _ (by rfl) _ (by rfl) 31 _ (0, 0) _ R0.out Try.underlying31 (by rfl) (info_cpu _) ?_) | (go_at_call 8; refine (hB.out _).mono ?_; rintro e w2 ⟨rfl, hb⟩; have Bw2 : Hid (Below W1.heap.size W1 w2) := hb; clear hb) | (refine wpList_store_last (by rfl) _ _ _ (by rfl) (by rfl) _ _ _ (by rfl) (by rfl) (by rfl) (info_cpu _) (by rw [cpc_size, cpc_size]) (cpc_ones _) ?_))
  refine go_onP (motive := fun W => Code.wp _ _ _ _ W) (Q := fun W => Row W w.heap.size (cpc k) 31 ∧ Row W w1.heap.size (cpc p2) 31 ∧ Row W w2.heap.size (cpc p2) 31 ∧ Below W0.heap.size W0 W) ⟨R0.out.ca Bw2.out _, R1.out.ca Bw2.out _, Row.new w2 (cpc p2) 31, (BB.out.trans (Bw2.out.mono BB.out.size)).alloc (Nat.le_trans BB.out.size Bw2.out.size) _⟩ ?_
  clear R0 R1 BB Bw2 hB hz
  rintro W2 ⟨q0, q1, q2, c0⟩
  have R0 : Hid (Row W2 w.heap.size (cpc k) 31) := q0
  have R1 : Hid (Row W2 w1.heap.size (cpc p2) 31) := q1
  have R2 : Hid (Row W2 w2.heap.size (cpc p2) 31) := q2
  have BB : Hid (Below W0.heap.size W0 W2) := c0
  clear q0 q1 q2 c0
  have hne := later_nonempty W2
  have HL0 : Hid (∀ j v, (cpc k)[j]? = some v → W2.cell? ⟨w.heap.size, 0 + j, none⟩ = some v) := R0.out.cpu.agg
  have HL1 : Hid (∀ j v, (cpc p2)[j]? = some v → W2.cell? ⟨w1.heap.size, 0 + j, none⟩ = some v) := R1.out.cpu.agg
  have HL2 : Hid (∀ j v, (cpc p2)[j]? = some v → W2.cell? ⟨w2.heap.size, 0 + j, none⟩ = some v) := R2.out.cpu.agg
  refine wp_region_later (x0 := Later.start W2) (by kernel_rfl) (by kernel_rfl) ?_
  repeat (first | (refine BigFrame.wpQuiet_want (by rfl) fun K hK => ?_; refine quiet_load_agg 31 _ (by rfl) w1.heap.size 0 (by rfl) (cpc p2) _ R1.out.lt HL1.out Try.underlying31 (by rfl) (info_cpu _) (hK _ ?_); clear hK K; simp only [Act.put, List.setIfInBounds_toArray, List.set_cons_succ, List.set_cons_zero]) | (refine BigFrame.wpQuiet_want (by rfl) fun K hK => ?_; refine quiet_load_agg 31 _ (by rfl) w2.heap.size 0 (by rfl) (cpc p2) _ R2.out.lt HL2.out Try.underlying31 (by rfl) (info_cpu _) (hK _ ?_); clear hK K; simp only [Act.put, List.setIfInBounds_toArray, List.set_cons_succ, List.set_cons_zero]) | (refine BigFrame.wpQuiet_want (by rfl) fun K hK => ?_; refine quiet_load_agg 31 _ (by rfl) w.heap.size 0 (by rfl) (cpc k) _ R0.out.lt HL0.out Try.underlying31 (by rfl) (info_cpu _) (hK _ ?_); clear hK K; simp only [Act.put, List.setIfInBounds_toArray, List.set_cons_succ, List.set_cons_zero]) | (go_big_quiet_step (first | (go_at_call 9; exact calls_later (hE.out _)) | (go_at_call 10; exact calls_later (hF.out _)))))
  refine wpQuiet_nil ?_
  rintro w' ⟨x9, rfl⟩
  go_wp2
  go_ret
  exact ⟨rfl, b0.out.trans ((BB.out.trans (x9.below.mono BB.out.size)).mono (Nat.le_of_lt hlt.out))⟩
end Go.Proofs.Ytnejdfkmnblfeab
