/-
  PmpProper.
-/
import Derived.Test.YtckgjfkodgeagaaPop
import Derived.ShutString
import Derived.ChangeOld
namespace Go.Proofs.Ytckgjfkodgeagaa
set_option linter.unusedVariables false
open Go.ChangeShapes Go.WideShapes Go.ChangeAt Go.RowKit Go.Deep
set_option maxRecDepth 100000 in
set_option maxHeartbeats 1000000 in
theorem proper_walk (c : Nat → BitVec 8) (a : Nat → BitVec 64) (w : World) :
    Calls Try.prog 3 #[.agg (pc c a)] w fun e w' => e = .returned (.bool true) ∧ Below w.heap.size w w' := by
  obtain ⟨W0, hW0, r0, b0, s0⟩ := start1 w (pc c a) 26
  have HS : Hid (W0.heap.size = w.heap.size + 1) := s0
  clear s0
  have := later_nonempty W0
  have hA : Hid (∀ W : World, Calls Try.prog 5 #[.agg (pc c a)] W fun e w' => e = .returned (.agg (pc (PC c) (PA a))) ∧ Below W.heap.size W w') := Proper_c c a
  have hB : Hid (∀ W : World, Calls Try.prog 6 #[.agg (pc c a)] W fun e w' => e = .returned (.agg (pc (PC c) (PA a))) ∧ Below W.heap.size W w') := rProper_c c a
  have heq : ∀ W, (Op.equalIn 10000 26 (.agg (pc (PC c) (PA a))) (.agg (pc (PC c) (PA a)))).run Try.prog W = .ok true W := fun W => eq_pc W _ _
  have hsz : (pc c a).size = 32 := pc_size c a
  have HSZ : Hid ((pc c a).size = 32) := hsz
  clear hsz
  generalize pc (PC c) (PA a) = p2 at hA hB heq
  generalize pc c a = p1 at *
  have HL : Hid (∀ j v, p1[j]? = some v → W0.cell? ⟨w.heap.size, 0 + j, none⟩ = some v) := fun j v hv => by rw [Nat.zero_add, r0.out.cell]; exact hv
  go_enter Try.func3, Try.ntmps3
  go_upto_region 1 with fail
  clear hW0
  refine wp_region_later (x0 := Later.start W0) (by kernel_rfl) (by kernel_rfl) ?_
  repeat (first | (refine BigFrame.wpQuiet_want (by rfl) fun K hK => ?_; refine quiet_load_agg _ _ (by rfl) w.heap.size 0 (by rfl) p1 _ (by rw [HS.out]; omega) HL.out Try.underlying26 (by rfl) (by rw [HSZ.out]; kernel_rfl) (hK _ ?_); clear hK K; simp only [Act.put, List.setIfInBounds_toArray, List.set_cons_succ, List.set_cons_zero]) | (go_big_quiet_step (first | (go_at_call 5; exact calls_later (hA.out _)) | (go_at_call 6; exact calls_later (hB.out _)))))
  refine wpQuiet_nil ?_
  rintro w' ⟨x9, rfl⟩
  go_wp2
  go_ret
  exact ⟨rfl, b0.out.trans (x9.below.mono (by rw [HS.out]; omega))⟩
end Go.Proofs.Ytckgjfkodgeagaa
namespace Go.Proofs.Ytckgjfkodgeagaa.pmpProper
open Go.ChangeShapes Go.WideShapes Go.ChangeAt Go.RowKit Go.Deep
theorem own : ownKnob Try.prog.godebug = none := by kernel_rfl
theorem laidOut : laidOutB Try.prog = true := by kernel_rfl
set_option maxRecDepth 100000 in
theorem lifted (os : Os) (started : os.Started) (H : Type) (enc : TypeId × Value → H) :
    ReturnsInHanded {} Try.checked os 3 .any (Rows.pmpProperSpec.pre6 enc Try.prog Try.f3 Rows.pmpProperRow.domain false) (Rows.pmpProperSpec.post enc Try.prog Try.f3 false true false false) := by
  refine returnsInHanded_of_change_sized (C := Try.checked) own started (by kernel_rfl) Try.func3
    (ChangeSpec.witness6 (enc := enc) (C := Try.checked) false ⟨#[], #[.agg (pc (fun _ => 0#8) (fun _ => 0#64))], []⟩ 8 (by kernel_rfl) (by kernel_rfl) (by kernel_rfl) (by kernel_rfl)) ?_
  intro W base args ds gs before hval0 hW hcnd hz0 _
  have hval : ∀ (j : Nat) t v, Try.f3.params[j]? = some t → args[j]? = some v → Value.okWide Try.prog W .any base t v := hval0
  have hW' := hW
  obtain ⟨p, q, hA0, hV, rfl, hfz, hnd⟩ := hW
  have hA : DataW.TrodAll enc Try.prog W 0 (fun _ => true) true Try.f3.params.toList args.toList ds p := hA0
  rw [Try.params3] at hA hval
  obtain ⟨v0, d0, rfl, rfl, h0⟩ := trodAll_one hA
  obtain ⟨rfl, rfl⟩ := trodVars_none hV
  have k0 := h0
  have lt0 : ∀ x ∈ p, x.block < W.heap.size := by obtain ⟨m, hm⟩ := k0; exact DataW.trod_lt m _ _ _ hm
  obtain ⟨c, a, rfl⟩ := open_pmp1 (hval 0 26 v0 rfl rfl) h0
  clear hA0 hval0
  refine (proper_walk c a W).mono fun e W' ⟨he, bel⟩ => ?_
  subst he
  exact ⟨_, rfl, _, _, _, [], _, [], hW', trodAll_mk1 (shut_bool Try.underlying4 _), trodAll_mk1 (Below.trod laidOut (by kernel_rfl) (of_decide_eq_true (by kernel_rfl)) k0 bel lt0), rfl, bel.frame _, fun h => by cases h⟩
theorem over : Rows.pmpProperRow.holds Try.pinned (OpenSpec.ofChange Rows.pmpProperSpec) :=
  OpenClaim.holds_of_wide 3 Try.f3 rfl rfl rfl rfl rfl rfl rfl ⟨rfl, rfl, rfl, rfl, rfl⟩ rfl rfl rfl rfl rfl (by kernel_rfl) Try.func3 (by kernel_rfl)
    (of_decide_eq_true (by kernel_rfl)) (by unfold Func.isWrapper; first | (rw [if_pos (by decide +kernel)]; kernel_rfl) | (rw [if_neg (by decide +kernel)]; exact ⟨rfl, rfl⟩))
    (fun os started H enc _ => lifted os started H enc)
end Go.Proofs.Ytckgjfkodgeagaa.pmpProper
namespace Go.Proofs.Ytckgjfkodgeagaa
theorem pmpProper_holds : Rows.PmpProperSaid := pmpProper.over
end Go.Proofs.Ytckgjfkodgeagaa
