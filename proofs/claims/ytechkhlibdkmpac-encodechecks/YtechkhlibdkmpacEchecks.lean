/-
  EncodeChecks.
-/
import Derived.Test.YtechkhlibdkmpacEs
import Derived.ShutString
import Derived.ChangeOld
namespace Go.Proofs.Ytechkhlibdkmpac
set_option linter.unusedVariables false
open Go.ChangeShapes Go.WideShapes Go.ChangeAt Go.RowKit Go.Deep
set_option maxRecDepth 100000 in
set_option maxHeartbeats 4000000 in
theorem checks_walk (x : Ins) (w : World) (hx : InsOk x) : Calls Try.prog 3 #[.agg (insv x)] w fun e w' => e = .returned (.bool true) ∧ Below w.heap.size w w' := by
  have HA : Hid (∀ w : World, Calls Try.prog 6 #[.agg #[.int .i64 x.op, .int .i64 x.rd, .int .i64 x.rs1, .int .i64 x.rs2, .int .i64 x.imm, .bool x.aq, .bool x.rl, .int .i64 x.len, .int .u32 x.raw]] w fun e w' => e = .returned (.int .i64 (rck x)) ∧ Below w.heap.size w w') := fun w => Check_c x w hx
  have HR : Hid (∀ w : World, Calls Try.prog 7 #[.agg #[.int .i64 x.op, .int .i64 x.rd, .int .i64 x.rs1, .int .i64 x.rs2, .int .i64 x.imm, .bool x.aq, .bool x.rl, .int .i64 x.len, .int .u32 x.raw]] w fun e w' => e = .returned (.int .i64 (rck x)) ∧ Below w.heap.size w w') := fun w => rcheck_c x w hx
  generalize rck x = rc at HA HR
  obtain ⟨W, hW⟩ : ∃ W, w.alloc (.cells #[.int .i64 x.op, .int .i64 x.rd, .int .i64 x.rs1, .int .i64 x.rs2, .int .i64 x.imm, .bool x.aq, .bool x.rl, .int .i64 x.len, .int .u32 x.raw] 24) = W := ⟨_, rfl⟩
  have HBW : Hid (Below w.heap.size w W) := by unfold Hid; rw [← hW]; exact below_al w _
  have K1 : Hid (W.heap[w.heap.size]? = some (.cells #[.int .i64 x.op, .int .i64 x.rd, .int .i64 x.rs1, .int .i64 x.rs2, .int .i64 x.imm, .bool x.aq, .bool x.rl, .int .i64 x.len, .int .u32 x.raw] 24 (0, 0))) := by unfold Hid; rw [← hW]; exact heap_alloc_new w _
  have HC : Hid (∀ w', Below W.heap.size W w' → w'.cell? ⟨w.heap.size, 0, none⟩ = some (.int .i64 x.op) ∧ w'.cell? ⟨w.heap.size, 1, none⟩ = some (.int .i64 x.rd) ∧ w'.cell? ⟨w.heap.size, 2, none⟩ = some (.int .i64 x.rs1) ∧ w'.cell? ⟨w.heap.size, 3, none⟩ = some (.int .i64 x.rs2) ∧ w'.cell? ⟨w.heap.size, 4, none⟩ = some (.int .i64 x.imm) ∧ w'.cell? ⟨w.heap.size, 5, none⟩ = some (.bool x.aq) ∧ w'.cell? ⟨w.heap.size, 6, none⟩ = some (.bool x.rl) ∧ w'.cell? ⟨w.heap.size, 7, none⟩ = some (.int .i64 x.len) ∧ w'.cell? ⟨w.heap.size, 8, none⟩ = some (.int .u32 x.raw)) := fun w' hb => by
    have hr : w'.heap[w.heap.size]? = some (.cells #[.int .i64 x.op, .int .i64 x.rd, .int .i64 x.rs1, .int .i64 x.rs2, .int .i64 x.imm, .bool x.aq, .bool x.rl, .int .i64 x.len, .int .u32 x.raw] 24 (0, 0)) := (hb.block _ (Array.getElem?_eq_some_iff.1 K1.out).1).trans K1.out
    exact ⟨cell_of_row w' _ 0 _ _ _ hr, cell_of_row w' _ 1 _ _ _ hr, cell_of_row w' _ 2 _ _ _ hr, cell_of_row w' _ 3 _ _ _ hr, cell_of_row w' _ 4 _ _ _ hr, cell_of_row w' _ 5 _ _ _ hr, cell_of_row w' _ 6 _ _ _ hr, cell_of_row w' _ 7 _ _ _ hr, cell_of_row w' _ 8 _ _ _ hr⟩
  clear hx
  unfold insv
  go_enter Try.func3, Try.ntmps3
  go_upto_region 1 with fail
  clear hW
  --@CUT1
  have HB0 : Hid (Below W.heap.size W W) := Below.refl _ _
  go_region_held3 (fun w' => w'.cell? ⟨w.heap.size, 0, none⟩ = some (.int .i64 x.op) ∧ w'.cell? ⟨w.heap.size, 1, none⟩ = some (.int .i64 x.rd) ∧ w'.cell? ⟨w.heap.size, 2, none⟩ = some (.int .i64 x.rs1) ∧ w'.cell? ⟨w.heap.size, 3, none⟩ = some (.int .i64 x.rs2) ∧ w'.cell? ⟨w.heap.size, 4, none⟩ = some (.int .i64 x.imm) ∧ w'.cell? ⟨w.heap.size, 5, none⟩ = some (.bool x.aq) ∧ w'.cell? ⟨w.heap.size, 6, none⟩ = some (.bool x.rl) ∧ w'.cell? ⟨w.heap.size, 7, none⟩ = some (.int .i64 x.len) ∧ w'.cell? ⟨w.heap.size, 8, none⟩ = some (.int .u32 x.raw)) (first | exact HC.out _ HB0.out | exact HC.out _ (Below.drew HB0.out)) (first | (go_at_call 6; refine (HA.out _).mono ?_; rintro e w2 ⟨rfl, hb⟩; have HB1 : Hid (Below W.heap.size W w2) := (by first | exact HB0.out.trans (hb.mono HB0.out.size) | exact (Below.drew HB0.out).trans (hb.mono HB0.out.size)); clear HB0; have HB0 := HB1; clear HB1 hb) | (go_at_call 7; refine (HR.out _).mono ?_; rintro e w3 ⟨rfl, hb⟩; have HB1 : Hid (Below W.heap.size W w3) := (by first | exact HB0.out.trans (hb.mono HB0.out.size) | exact (Below.drew HB0.out).trans (hb.mono HB0.out.size)); clear HB0; have HB0 := HB1; clear HB1 hb) | (go_at_call 5; refine (num_c _ _).mono ?_; rintro e w4 ⟨rfl, hw⟩; have hw2 := hw.symm; subst hw2))
  --@CUT2
  all_goals go_wp2
  all_goals go_ret
  all_goals exact ⟨by rfl, HBW.out.trans (HB0.out.mono HBW.out.size)⟩
end Go.Proofs.Ytechkhlibdkmpac
namespace Go.Proofs.Ytechkhlibdkmpac.encodeChecks
open Go.ChangeShapes Go.WideShapes Go.ChangeAt Go.RowKit Go.Deep
theorem own : ownKnob Try.prog.godebug = none := by kernel_rfl
theorem laidOut : laidOutB Try.prog = true := by kernel_rfl
set_option maxRecDepth 100000 in
theorem lifted (os : Os) (started : os.Started) (H : Type) (enc : TypeId × Value → H) :
    ReturnsInHanded {} Try.checked os 3 .any (Rows.encodeChecksSpec.pre6 enc Try.prog Try.f3 Rows.encodeChecksRow.domain false) (Rows.encodeChecksSpec.post enc Try.prog Try.f3 false true false false) := by
  refine returnsInHanded_of_change_sized (C := Try.checked) own started (by kernel_rfl) Try.func3
    (ChangeSpec.witness6 (enc := enc) (C := Try.checked) false ⟨#[], #[.agg (insv ⟨0, 0, 0, 0, 0, false, false, 0, 0⟩)], []⟩ 8 (by kernel_rfl) (by kernel_rfl) (by kernel_rfl) (by kernel_rfl)) ?_
  intro W base args ds gs before hval0 hW hcnd hz0 _
  have hval : ∀ (j : Nat) t v, Try.f3.params[j]? = some t → args[j]? = some v → Value.okWide Try.prog W .any base t v := hval0
  have hW' := hW
  obtain ⟨p, q, hA0, hV, rfl, hfz, hnd⟩ := hW
  have hA : DataW.TrodAll enc Try.prog W 0 (fun _ => true) true Try.f3.params.toList args.toList ds p := hA0
  rw [Try.params3] at hA hval
  obtain ⟨v0, d0, rfl, rfl, h0⟩ := trodAll_one hA
  obtain ⟨rfl, rfl⟩ := trodVars_none hV
  have k0 := h0
  have lt0 : ∀ x ∈ p, x.block < W.heap.size := by obtain ⟨m, hm⟩ := k0; exact DataW.trod_lt m _ _ _ hm
  obtain ⟨cs, rfl, _⟩ := okWide_struct Try.underlying24 (hval 0 24 v0 rfl rfl)
  obtain ⟨fuel, hf⟩ := h0
  obtain ⟨x, hcs, hx⟩ := open_ins hf
  have hcs' : cs = insv x := by
    cases cs
    simpa [Value.cells] using congrArg List.toArray hcs
  subst hcs'
  clear hA0 hval0
  refine (checks_walk x W hx).mono fun e W' ⟨he, bel⟩ => ?_
  subst he
  exact ⟨_, rfl, _, _, _, [], _, [], hW', trodAll_mk1 (shut_bool Try.underlying4 _), trodAll_mk1 (Below.trod laidOut (by kernel_rfl) (of_decide_eq_true (by kernel_rfl)) k0 bel lt0), rfl, bel.frame _, fun h => by cases h⟩
theorem over : Rows.encodeChecksRow.holds Try.pinned (OpenSpec.ofChange Rows.encodeChecksSpec) :=
  OpenClaim.holds_of_wide 3 Try.f3 rfl rfl rfl rfl rfl rfl rfl ⟨rfl, rfl, rfl, rfl, rfl⟩ rfl rfl rfl rfl rfl (by kernel_rfl) Try.func3 (by kernel_rfl)
    (of_decide_eq_true (by kernel_rfl)) (by unfold Func.isWrapper; first | (rw [if_pos (by decide +kernel)]; kernel_rfl) | (rw [if_neg (by decide +kernel)]; exact ⟨rfl, rfl⟩))
    (fun os started H enc _ => lifted os started H enc)
end Go.Proofs.Ytechkhlibdkmpac.encodeChecks
namespace Go.Proofs.Ytechkhlibdkmpac
theorem encodeChecks_holds : Rows.EncodeChecksSaid := encodeChecks.over
end Go.Proofs.Ytechkhlibdkmpac
