/-
  PmpReads.
-/
import Derived.Test.YtckgjfkodgeagaaPbc
import Derived.ShutString
import Derived.ChangeOld
namespace Go.Proofs.Ytckgjfkodgeagaa
set_option linter.unusedVariables false
open Go.ChangeShapes Go.WideShapes Go.ChangeAt Go.RowKit Go.Deep
theorem askc_pmp (c : Nat → BitVec 8) (a : Nat → BitVec 64) (i : Int) (v : BitVec 64) (m : Int) (ad : BitVec 64) (s b : Int) {w : World} {g : Nat} {T : TypeId} (h : Row w g (askc c a i v m ad s b) T) : ∀ j u, (pc c a)[j]? = some u → w.cell? ⟨g, 0 + j, none⟩ = some u := fun j u hu => by
  have hj : j < 32 := by
    by_cases hj : j < 32
    · exact hj
    · rw [Array.getElem?_eq_none (by rw [pc_size]; omega)] at hu; cases hu
  rw [h.cell, Nat.zero_add, askc, Array.getElem?_append_left (by rw [pc_size]; exact hj)]; exact hu
theorem askc_rest (c : Nat → BitVec 8) (a : Nat → BitVec 64) (i : Int) (v : BitVec 64) (m : Int) (ad : BitVec 64) (s b : Int) {w : World} {g : Nat} {T : TypeId} (h : Row w g (askc c a i v m ad s b) T) :
    w.cell? ⟨g, 32, none⟩ = some (.int .i64 i) ∧ w.cell? ⟨g, 33, none⟩ = some (.int .u64 (n64 v)) ∧ w.cell? ⟨g, 34, none⟩ = some (.int .i64 m) ∧ w.cell? ⟨g, 35, none⟩ = some (.int .u64 (n64 ad)) ∧ w.cell? ⟨g, 36, none⟩ = some (.int .i64 s) ∧ w.cell? ⟨g, 37, none⟩ = some (.int .i64 b) := by
  have t : ∀ j, 32 ≤ j → w.cell? ⟨g, j, none⟩ = #[Value.int .i64 i, .int .u64 (n64 v), .int .i64 m, .int .u64 (n64 ad), .int .i64 s, .int .i64 b][j - 32]? := fun j hj => by
    rw [h.cell, askc, Array.getElem?_append_right (by rw [pc_size]; exact hj), pc_size]
  exact ⟨t 32 (by omega), t 33 (by omega), t 34 (by omega), t 35 (by omega), t 36 (by omega), t 37 (by omega)⟩
theorem later_at {W : World} {g j : Nat} {v : Value} (hg : g < W.heap.size) (h : W.cell? ⟨g, j, none⟩ = some v) : ∀ x : Later W, x.1.cell? ⟨g, j, none⟩ = some v := fun x => (later_cell x (by exact hg)).trans h
set_option maxRecDepth 100000 in
set_option maxHeartbeats 1000000 in
theorem reads_walk (c : Nat → BitVec 8) (a : Nat → BitVec 64) (i : Int) (v : BitVec 64) (m : Int) (ad : BitVec 64) (s b : Int) (w : World) :
    Calls Try.prog 4 #[.agg (askc c a i v m ad s b)] w fun e w' => e = .returned (.bool true) ∧ Below w.heap.size w w' := by
  obtain ⟨W0, hW0, r0, b0, s0⟩ := start1 w (askc c a i v m ad s b) 30
  have HS : Hid (W0.heap.size = w.heap.size + 1) := s0
  clear s0
  have hA : Hid (∀ W : World, Calls Try.prog 7 #[.agg (pc c a), .int .i64 i] W fun e w' => e = .returned (.tuple #[.bool (cL (PC c) i), .bool (aL (PC c) i)]) ∧ Below W.heap.size W w') := Locked_c c a i
  have hB : Hid (∀ W : World, Calls Try.prog 8 #[.agg (pc c a), .int .i64 i] W fun e w' => e = .returned (.tuple #[.bool (cL (PC c) i), .bool (aL (PC c) i)]) ∧ Below W.heap.size W w') := rLocked_c c a i
  have hC : Hid (∀ W : World, Calls Try.prog 9 #[.agg (pc c a), .int .i64 i] W fun e w' => e = .returned (.int .u64 (cfgR (PC c) i)) ∧ Below W.heap.size W w') := Cfg_c c a i
  have hD : Hid (∀ W : World, Calls Try.prog 10 #[.agg (pc c a), .int .i64 i] W fun e w' => e = .returned (.int .u64 (cfgR (PC c) i)) ∧ Below W.heap.size W w') := rCfg_c c a i
  generalize cL (PC c) i = x1 at hA hB
  generalize aL (PC c) i = x2 at hA hB
  generalize cfgR (PC c) i = x3 at hC hD
  have hL0 := askc_pmp c a i v m ad s b r0.out
  have c32 := (askc_rest c a i v m ad s b r0.out).1
  have HSZ : Hid ((pc c a).size = 32) := pc_size c a
  have HX : Hid (∀ W1, Below W0.heap.size W0 W1 → (∀ j u, (pc c a)[j]? = some u → W1.cell? ⟨w.heap.size, 0 + j, none⟩ = some u) ∧ W1.cell? ⟨w.heap.size, 32, none⟩ = some (.int .i64 i)) := fun W1 hb =>
    ⟨fun j u hu => (hb.cell (p := ⟨w.heap.size, 0 + j, none⟩) (by show w.heap.size < _; rw [HS.out]; omega)).trans (hL0 j u hu), (hb.cell (p := ⟨w.heap.size, 32, none⟩) (by show w.heap.size < _; rw [HS.out]; omega)).trans c32⟩
  have HL0 : Hid (∀ j u, (pc c a)[j]? = some u → W0.cell? ⟨w.heap.size, 0 + j, none⟩ = some u) := hL0
  clear hL0 r0
  generalize pc c a = p1 at HL0 HSZ HX hA hB hC hD
  go_enter Try.func4, Try.ntmps4
  go_upto_region 1 with fail
  clear hW0
  go_upto_region 3 with (first | (refine wpList_load_agg (by rfl) _ _ (by rfl) w.heap.size 0 (by rfl) p1 _ HL0.out Try.underlying26 (by rfl) (by rw [HSZ.out]; kernel_rfl) ?_) | (refine wpList_load_agg (by rfl) _ _ (by rfl) w.heap.size 0 (by rfl) p1 _ HL1.out Try.underlying26 (by rfl) (by rw [HSZ.out]; kernel_rfl) ?_) | (go_at_call 7; refine (hA.out _).mono ?_; rintro e w1 ⟨rfl, hb⟩; have HB1 : Hid (Below W0.heap.size W0 w1) := hb; have HL1 : Hid (∀ j u, p1[j]? = some u → w1.cell? ⟨w.heap.size, 0 + j, none⟩ = some u) := (HX.out w1 hb).1; have d32 := (HX.out w1 hb).2; clear hb) | (go_at_call 8; refine (hB.out _).mono ?_; rintro e w2 ⟨rfl, hb⟩; have HB2 : Hid (Below W0.heap.size W0 w2) := HB1.out.trans (hb.mono HB1.out.size); clear hb))
  have HL2 : Hid (∀ j u, p1[j]? = some u → w2.cell? ⟨w.heap.size, 0 + j, none⟩ = some u) := (HX.out w2 HB2.out).1
  have hlt : Hid (w.heap.size < w2.heap.size) := Nat.lt_of_lt_of_le (by rw [HS.out]; omega) HB2.out.size
  have e32 := later_at hlt.out (HX.out w2 HB2.out).2
  have := later_nonempty w2
  clear HL1 d32 HX HB1 hA hB HL0 c32
  refine wp_region_later (x0 := Later.start w2) (by kernel_rfl) (by kernel_rfl) ?_
  repeat (first | (refine BigFrame.wpQuiet_want (by rfl) fun K hK => ?_; refine quiet_load_agg 26 _ (by rfl) w.heap.size 0 (by rfl) p1 _ hlt.out HL2.out Try.underlying26 (by rfl) (by rw [HSZ.out]; kernel_rfl) (hK _ ?_); clear hK K; simp only [Act.put, List.setIfInBounds_toArray, List.set_cons_succ, List.set_cons_zero]) | (go_big_quiet_step (first | (go_at_call 9; exact calls_later (hC.out _)) | (go_at_call 10; exact calls_later (hD.out _)))))
  refine wpQuiet_nil ?_
  rintro w' ⟨x9, rfl⟩
  go_wp2
  go_ret
  exact ⟨rfl, b0.out.trans ((HB2.out.trans (x9.below.mono HB2.out.size)).mono (by rw [HS.out]; omega))⟩
end Go.Proofs.Ytckgjfkodgeagaa
namespace Go.Proofs.Ytckgjfkodgeagaa.pmpReads
open Go.ChangeShapes Go.WideShapes Go.ChangeAt Go.RowKit Go.Deep
theorem own : ownKnob Try.prog.godebug = none := by kernel_rfl
theorem laidOut : laidOutB Try.prog = true := by kernel_rfl
set_option maxRecDepth 100000 in
theorem lifted (os : Os) (started : os.Started) (H : Type) (enc : TypeId × Value → H) :
    ReturnsInHanded {} Try.checked os 4 .any (Rows.pmpReadsSpec.pre6 enc Try.prog Try.f4 Rows.pmpReadsRow.domain false) (Rows.pmpReadsSpec.post enc Try.prog Try.f4 false true false false) := by
  refine returnsInHanded_of_change_sized (C := Try.checked) own started (by kernel_rfl) Try.func4
    (ChangeSpec.witness6 (enc := enc) (C := Try.checked) false ⟨#[], #[.agg (askc (fun _ => 0#8) (fun _ => 0#64) 0 0#64 0 0#64 0 0)], []⟩ 8 (by kernel_rfl) (by kernel_rfl) (by kernel_rfl) (by kernel_rfl)) ?_
  intro W base args ds gs before hval0 hW hcnd hz0 _
  have hval : ∀ (j : Nat) t v, Try.f4.params[j]? = some t → args[j]? = some v → Value.okWide Try.prog W .any base t v := hval0
  have hW' := hW
  obtain ⟨p, q, hA0, hV, rfl, hfz, hnd⟩ := hW
  have hA : DataW.TrodAll enc Try.prog W 0 (fun _ => true) true Try.f4.params.toList args.toList ds p := hA0
  rw [Try.params4] at hA hval
  obtain ⟨v0, d0, rfl, rfl, h0⟩ := trodAll_one hA
  obtain ⟨rfl, rfl⟩ := trodVars_none hV
  have k0 := h0
  have lt0 : ∀ x ∈ p, x.block < W.heap.size := by obtain ⟨m, hm⟩ := k0; exact DataW.trod_lt m _ _ _ hm
  obtain ⟨cs, rfl, _⟩ := okWide_struct Try.underlying30 (hval 0 30 v0 rfl rfl)
  obtain ⟨fuel, hf⟩ := h0
  obtain ⟨c, a, i, v, m, ad, s, b, hcs, bi, bm, bs, bb⟩ := open_ask Try.underlying30 (by kernel_rfl) ⟨rfl, rfl⟩ ⟨rfl, rfl⟩ ⟨rfl, rfl⟩ ⟨rfl, rfl⟩ ⟨rfl, rfl⟩ ⟨rfl, rfl⟩ ⟨rfl, rfl⟩ hf
  have hcs' : cs = askc c a i v m ad s b := by
    cases cs
    simpa [Value.cells] using congrArg List.toArray hcs
  subst hcs'
  clear hA0 hval0
  refine (reads_walk c a i v m ad s b W).mono fun e W' ⟨he, bel⟩ => ?_
  subst he
  exact ⟨_, rfl, _, _, _, [], _, [], hW', trodAll_mk1 (shut_bool Try.underlying4 _), trodAll_mk1 (Below.trod laidOut (by kernel_rfl) (of_decide_eq_true (by kernel_rfl)) k0 bel lt0), rfl, bel.frame _, fun h => by cases h⟩
theorem over : Rows.pmpReadsRow.holds Try.pinned (OpenSpec.ofChange Rows.pmpReadsSpec) :=
  OpenClaim.holds_of_wide 4 Try.f4 rfl rfl rfl rfl rfl rfl rfl ⟨rfl, rfl, rfl, rfl, rfl⟩ rfl rfl rfl rfl rfl (by kernel_rfl) Try.func4 (by kernel_rfl)
    (of_decide_eq_true (by kernel_rfl)) (by unfold Func.isWrapper; first | (rw [if_pos (by decide +kernel)]; kernel_rfl) | (rw [if_neg (by decide +kernel)]; exact ⟨rfl, rfl⟩))
    (fun os started H enc _ => lifted os started H enc)
end Go.Proofs.Ytckgjfkodgeagaa.pmpReads
namespace Go.Proofs.Ytckgjfkodgeagaa
theorem pmpReads_holds : Rows.PmpReadsSaid := pmpReads.over
end Go.Proofs.Ytckgjfkodgeagaa
