/-
  PmpWrites.
-/
import Derived.Test.YtckgjfkodgeagabPby
import Derived.Test.YtckgjfkodgeagabPak
import Derived.ShutString
import Derived.ChangeOld
namespace Go.Proofs.Ytckgjfkodgeagab
set_option linter.unusedVariables false
open Go.ChangeShapes Go.WideShapes Go.ChangeAt Go.RowKit Go.Deep
set_option maxRecDepth 100000 in
set_option maxHeartbeats 1000000 in
theorem writes_walk (c : Nat → BitVec 8) (a : Nat → BitVec 64) (i : Int) (v : BitVec 64) (m : Int) (ad : BitVec 64) (s b : Int) (w : World) :
    Calls Try.prog 3 #[.agg (askc c a i v m ad s b)] w fun e w' => e = .returned (.bool true) ∧ Below w.heap.size w w' := by
  obtain ⟨W0, hW0, r0, b0, s0⟩ := start1 w (askc c a i v m ad s b) 28
  have hlt : Hid (w.heap.size < W0.heap.size) := by unfold Hid; omega
  clear s0
  have hA : Hid (∀ W : World, Calls Try.prog 4 #[.agg (pc c a), .int .i64 i, .int .u64 (n64 v)] W fun e w' => e = .returned (.agg (pc (sR (PC c) i v) (PA a))) ∧ Below W.heap.size W w') := SetCfg_c c a i v
  have hB : Hid (∀ W : World, Calls Try.prog 5 #[.agg (pc c a), .int .i64 i, .int .u64 (n64 v)] W fun e w' => e = .returned (.agg (pc (sR (PC c) i v) (PA a))) ∧ Below W.heap.size W w') := rSetCfg_c c a i v
  have hC : Hid (∀ W : World, Calls Try.prog 6 #[.agg (pc c a), .int .i64 i, .int .u64 (n64 v)] W fun e w' => e = .returned (.agg (pc (PC c) (sA (PC c) (PA a) i v))) ∧ Below W.heap.size W w') := SetAddr_c c a i v
  have hD : Hid (∀ W : World, Calls Try.prog 7 #[.agg (pc c a), .int .i64 i, .int .u64 (n64 v)] W fun e w' => e = .returned (.agg (pc (PC c) (sA (PC c) (PA a) i v))) ∧ Below W.heap.size W w') := rSetAddr_c c a i v
  have q1 : ∀ W, (Op.equalIn 10000 26 (.agg (pc (sR (PC c) i v) (PA a))) (.agg (pc (sR (PC c) i v) (PA a)))).run Try.prog W = .ok true W := fun W => eq_pc W _ _
  have q2 : ∀ W, (Op.equalIn 10000 26 (.agg (pc (PC c) (sA (PC c) (PA a) i v))) (.agg (pc (PC c) (sA (PC c) (PA a) i v)))).run Try.prog W = .ok true W := fun W => eq_pc W _ _
  have HL2 : Hid (∀ j u, (pc c a)[j]? = some u → W0.cell? ⟨w.heap.size, 0 + j, none⟩ = some u) := askc_pmp c a i v m ad s b r0.out
  have e32 := later_at hlt.out (askc_rest c a i v m ad s b r0.out).1
  have e33 := later_at hlt.out (askc_rest c a i v m ad s b r0.out).2.1
  have HSZ : Hid ((pc c a).size = 32) := pc_size c a
  generalize pc (sR (PC c) i v) (PA a) = p2 at hA hB q1
  generalize pc (PC c) (sA (PC c) (PA a) i v) = p3 at hC hD q2
  generalize pc c a = p1 at HL2 HSZ hA hB hC hD
  go_enter Try.func3, Try.ntmps3
  go_upto_region 1 with fail
  clear hW0 r0
  have := later_nonempty W0
  refine wp_region_later (x0 := Later.start W0) (by kernel_rfl) (by kernel_rfl) ?_
  repeat (first | (refine BigFrame.wpQuiet_want (by rfl) fun K hK => ?_; refine quiet_load_agg 26 _ (by rfl) w.heap.size 0 (by rfl) p1 _ hlt.out HL2.out Try.underlying26 (by rfl) (by rw [HSZ.out]; kernel_rfl) (hK _ ?_); clear hK K; simp only [Act.put, List.setIfInBounds_toArray, List.set_cons_succ, List.set_cons_zero]) | (go_big_quiet_step (first | (go_at_call 4; exact calls_later (hA.out _)) | (go_at_call 5; exact calls_later (hB.out _)) | (go_at_call 6; exact calls_later (hC.out _)) | (go_at_call 7; exact calls_later (hD.out _)))))
  refine wpQuiet_nil ?_
  rintro w' ⟨x9, rfl⟩
  go_wp2
  go_ret
  exact ⟨rfl, b0.out.trans (x9.below.mono (Nat.le_of_lt hlt.out))⟩
end Go.Proofs.Ytckgjfkodgeagab
namespace Go.Proofs.Ytckgjfkodgeagab.pmpWrites
open Go.ChangeShapes Go.WideShapes Go.ChangeAt Go.RowKit Go.Deep
theorem own : ownKnob Try.prog.godebug = none := by kernel_rfl
theorem laidOut : laidOutB Try.prog = true := by kernel_rfl
set_option maxRecDepth 100000 in
theorem lifted (os : Os) (started : os.Started) (H : Type) (enc : TypeId × Value → H) :
    ReturnsInHanded {} Try.checked os 3 .any (Rows.pmpWritesSpec.pre6 enc Try.prog Try.f3 Rows.pmpWritesRow.domain false) (Rows.pmpWritesSpec.post enc Try.prog Try.f3 false true false false) := by
  refine returnsInHanded_of_change_sized (C := Try.checked) own started (by kernel_rfl) Try.func3
    (ChangeSpec.witness6 (enc := enc) (C := Try.checked) false ⟨#[], #[.agg (askc (fun _ => 0#8) (fun _ => 0#64) 0 0#64 0 0#64 0 0)], []⟩ 8 (by kernel_rfl) (by kernel_rfl) (by kernel_rfl) (by kernel_rfl)) ?_
  intro W base args ds gs before hval0 hW hcnd hz0 _
  have hval : ∀ (j : Nat) t v, Try.f3.params[j]? = some t → args[j]? = some v → Value.okWide Try.prog W .any base t v := hval0
  have hW' := hW
  obtain ⟨p, q, hA0, hV, rfl, hfz, hnd⟩ := hW
  have hA : DataW.TrodAll enc Try.prog W 0 (fun _ => true) true Try.f3.params.toList args.toList ds p := hA0
  rw [Try.params3] at hA hval
  obtain ⟨v0, d0, rfl, rfl, h0⟩ := trodAll_one hA
  obtain ⟨rfl, rfl⟩ := trodVars_none hV
  have k0 := h0
  have lt0 : ∀ x ∈ p, x.block < W.heap.size := by obtain ⟨m, hm⟩ := k0; exact DataW.trod_lt m _ _ _ hm
  obtain ⟨cs, rfl, _⟩ := okWide_struct Try.underlying28 (hval 0 28 v0 rfl rfl)
  obtain ⟨fuel, hf⟩ := h0
  obtain ⟨c, a, i, v, m, ad, s, b, hcs, bi, bm, bs, bb⟩ := open_ask Try.underlying28 (by kernel_rfl) ⟨rfl, rfl⟩ ⟨rfl, rfl⟩ ⟨rfl, rfl⟩ ⟨rfl, rfl⟩ ⟨rfl, rfl⟩ ⟨rfl, rfl⟩ ⟨rfl, rfl⟩ hf
  have hcs' : cs = askc c a i v m ad s b := by
    cases cs
    simpa [Value.cells] using congrArg List.toArray hcs
  subst hcs'
  clear hA0 hval0
  refine (writes_walk c a i v m ad s b W).mono fun e W' ⟨he, bel⟩ => ?_
  subst he
  exact ⟨_, rfl, _, _, _, [], _, [], hW', trodAll_mk1 (shut_bool Try.underlying4 _), trodAll_mk1 (Below.trod laidOut (by kernel_rfl) (of_decide_eq_true (by kernel_rfl)) k0 bel lt0), rfl, bel.frame _, fun h => by cases h⟩
theorem over : Rows.pmpWritesRow.holds Try.pinned (OpenSpec.ofChange Rows.pmpWritesSpec) :=
  OpenClaim.holds_of_wide 3 Try.f3 rfl rfl rfl rfl rfl rfl rfl ⟨rfl, rfl, rfl, rfl, rfl⟩ rfl rfl rfl rfl rfl (by kernel_rfl) Try.func3 (by kernel_rfl)
    (of_decide_eq_true (by kernel_rfl)) (by unfold Func.isWrapper; first | (rw [if_pos (by decide +kernel)]; kernel_rfl) | (rw [if_neg (by decide +kernel)]; exact ⟨rfl, rfl⟩))
    (fun os started H enc _ => lifted os started H enc)
end Go.Proofs.Ytckgjfkodgeagab.pmpWrites
namespace Go.Proofs.Ytckgjfkodgeagab
theorem pmpWrites_holds : Rows.PmpWritesSaid := pmpWrites.over
end Go.Proofs.Ytckgjfkodgeagab
