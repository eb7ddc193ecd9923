/-
  PmpChecks.
-/
import Derived.Test.YtckgjfkodgeagabDoorPsk
import Derived.Test.YtckgjfkodgeagabDoorPak
import Derived.Test.YtckgjfkodgeagabDoorPcd
import Derived.ShutString
import Derived.ChangeOld
namespace Go.Proofs.YtckgjfkodgeagabDoor
set_option linter.unusedVariables false
open Go.ChangeShapes Go.WideShapes Go.ChangeAt Go.RowKit Go.Deep
theorem tb_later {W : World} (h : Tb W) (x : Later W) : Tb x.1 := h.next x.below
set_option maxRecDepth 100000 in
set_option maxHeartbeats 2000000 in
theorem checks_walk (c : Nat → BitVec 8) (a : Nat → BitVec 64) (i : Int) (v : BitVec 64) (m : Int) (ad : BitVec 64) (s b : Int) (w : World) (hT : Tb w) :
    Calls Tryd.prog 7 #[.agg (askc c a i v m ad s b)] w fun e w' => e = .returned (.bool true) ∧ Below w.heap.size w w' := by
  obtain ⟨W0, hW0, r0, b0, s0⟩ := start1 w (askc c a i v m ad s b) 28
  have hlt : Hid (w.heap.size < W0.heap.size) := by unfold Hid; omega
  have HT : Hid (Tb W0) := hT.next b0.out
  clear s0 hT
  have hA : Hid (∀ W : World, Tb W → Calls Tryd.prog 14 #[.agg (pc c a), .int .i64 m, .int .u64 (n64 ad), .int .i64 s, .int .i64 b] W fun e w' => e = .returned (.bool (ckA (PC c) (PA a) m ad s b)) ∧ Below W.heap.size W w') := fun W h => Check_c c a m ad s b W h
  have hB : Hid (∀ W : World, Calls Tryd.prog 17 #[.agg (pc c a), .int .i64 m, .int .u64 (n64 ad), .int .i64 s, .int .i64 b] W fun e w' => e = .returned (.bool (ckA (PC c) (PA a) m ad s b)) ∧ Below W.heap.size W w') := rCheck_c c a m ad s b
  generalize ckA (PC c) (PA a) m ad s b = x1 at hA hB
  have HL2 : Hid (∀ j u, (pc c a)[j]? = some u → W0.cell? ⟨w.heap.size, 0 + j, none⟩ = some u) := askc_pmp c a i v m ad s b r0.out
  have e34 := later_at hlt.out (askc_rest c a i v m ad s b r0.out).2.2.1
  have e35 := later_at hlt.out (askc_rest c a i v m ad s b r0.out).2.2.2.1
  have e36 := later_at hlt.out (askc_rest c a i v m ad s b r0.out).2.2.2.2.1
  have e37 := later_at hlt.out (askc_rest c a i v m ad s b r0.out).2.2.2.2.2
  have HSZ : Hid ((pc c a).size = 32) := pc_size c a
  generalize pc c a = p1 at HL2 HSZ hA hB
  go_enter Tryd.func7, Tryd.ntmps7
  go_upto_region 1 with fail
  clear hW0 r0
  have := later_nonempty W0
  refine wp_region_later (x0 := Later.start W0) (by kernel_rfl) (by kernel_rfl) ?_
  repeat (first | (refine BigFrame.wpQuiet_want (by rfl) fun K hK => ?_; refine quiet_load_agg 26 _ (by rfl) w.heap.size 0 (by rfl) p1 _ hlt.out HL2.out Tryd.underlying26 (by rfl) (by rw [HSZ.out]; kernel_rfl) (hK _ ?_); clear hK K; simp only [Act.put, List.setIfInBounds_toArray, List.set_cons_succ, List.set_cons_zero]) | (go_big_quiet_step (first | (go_at_call 14; exact calls_later (hA.out _ (tb_later HT.out _))) | (go_at_call 17; exact calls_later (hB.out _)))))
  refine wpQuiet_nil ?_
  rintro w' ⟨x9, rfl⟩
  go_wp2
  go_ret
  exact ⟨by simp, b0.out.trans (x9.below.mono (Nat.le_of_lt hlt.out))⟩
end Go.Proofs.YtckgjfkodgeagabDoor
namespace Go.Proofs.YtckgjfkodgeagabDoor.pmpChecks
set_option linter.unusedVariables false
open Go.ChangeShapes Go.WideShapes Go.ChangeAt Go.RowKit Go.Deep Go.Lib Go.Shelf
theorem own : ownKnob Tryd.prog.godebug = none := by kernel_rfl
theorem laidOut : laidOutB Tryd.prog = true := by kernel_rfl
set_option maxRecDepth 100000 in
set_option maxHeartbeats 2000000 in
theorem lifted (os : Os) (started : os.Started) (H : Type) (enc : TypeId × Value → H) :
    ReturnsInHanded {} Tryd.checked os 7 .any (fun w args => (Rows.pmpChecksSpec.pre enc Tryd.prog Tryd.f7 [] false w args ∧ laidMetH Tryd.prog Rows.pmpChecksRow.laid w) ∧ sizedMet enc Tryd.prog Tryd.f7 (OpenSpec.ofChange Rows.pmpChecksSpec) false w args)
      (Rows.pmpChecksSpec.post enc Tryd.prog Tryd.f7 false true false false) := by
  refine returnsInHanded_of_change_and (C := Tryd.checked) (X := fun w _ => laidMetH Tryd.prog Rows.pmpChecksRow.laid w) (fun _ _ _ hh h => h.of_heap hh) own started (by kernel_rfl) Tryd.func7
    (ChangeSpec.witness_shaped (enc := enc) (C := Tryd.checked) (os := os) (X := fun w _ => laidMetH Tryd.prog Rows.pmpChecksRow.laid w) false (World.laidAll Tryd.prog os Rows.pmpChecksRow.laid) #[.agg (askc (fun _ => 0#8) (fun _ => 0#64) 0 0#64 0 0#64 0 0)] 8 (World.laidAll_os _ _ _)
      (World.shaped_of_ZipB (by kernel_rfl) (by kernel_rfl)) (by kernel_rfl) (by kernel_rfl) (by kernel_rfl)
      (by rw [MakeChecks.laidMetH_plain _ _ _ (by kernel_rfl)]; exact laidMet_laidAll _ (by kernel_rfl) (by kernel_rfl))) ?_
  intro W base args ds gs before hval0 hW _ hz0 hL _
  have hval : ∀ (j : Nat) t v, Tryd.f7.params[j]? = some t → args[j]? = some v → Value.okWide Tryd.prog W .any base t v := hval0
  have hW' := hW
  obtain ⟨p, q, hA0, hV, rfl, _, _⟩ := hW
  have hA : DataW.TrodAll enc Tryd.prog W 0 (fun _ => true) true Tryd.f7.params.toList args.toList ds p := hA0
  rw [Tryd.params7] at hA hval
  obtain ⟨v0, d0, rfl, rfl, h0⟩ := trodAll_one hA
  obtain ⟨rfl, rfl⟩ := trodVars_none hV
  have k0 := h0
  have lt0 : ∀ x ∈ p, x.block < W.heap.size := by obtain ⟨m, hm⟩ := k0; exact DataW.trod_lt m _ _ _ hm
  obtain ⟨cs, rfl, _⟩ := okWide_struct Tryd.underlying28 (hval 0 28 v0 rfl rfl)
  obtain ⟨fuel, hf⟩ := h0
  obtain ⟨c, a, i, v, m, ad, s, b, hcs, bi, bm, bs, bb⟩ := open_ask Tryd.underlying28 (by kernel_rfl) ⟨rfl, rfl⟩ ⟨rfl, rfl⟩ ⟨rfl, rfl⟩ ⟨rfl, rfl⟩ ⟨rfl, rfl⟩ ⟨rfl, rfl⟩ ⟨rfl, rfl⟩ hf
  have hcs' : cs = askc c a i v m ad s b := by
    cases cs
    simpa [Value.cells] using congrArg List.toArray hcs
  subst hcs'
  rw [MakeChecks.laidMetH_plain _ _ _ (by kernel_rfl)] at hL
  have hT : Tb W := tb_of_reads (Lib.laidMet.reads hL (.head _))
  clear hA0 hval0 hz0
  refine (checks_walk c a i v m ad s b W hT).mono fun e W' ⟨he, bel⟩ => ?_
  subst he
  exact ⟨_, rfl, _, _, _, [], _, [], hW', trodAll_mk1 (shut_bool Tryd.underlying4 _), trodAll_mk1 (Below.trod laidOut (by kernel_rfl) (of_decide_eq_true (by kernel_rfl)) k0 bel lt0), rfl, bel.frame _, fun h => by cases h⟩
theorem over : Rows.pmpChecksRow.holds Tryd.pinned (OpenSpec.ofChange Rows.pmpChecksSpec) :=
  OpenClaim.holds_of_wide 7 Tryd.f7 rfl rfl rfl rfl rfl rfl rfl ⟨rfl, rfl, rfl, rfl, rfl⟩ rfl rfl rfl rfl rfl (by kernel_rfl) Tryd.func7 (by kernel_rfl)
    (of_decide_eq_true (by kernel_rfl)) (by unfold Func.isWrapper; first | (rw [if_pos (by decide +kernel)]; kernel_rfl) | (rw [if_neg (by decide +kernel)]; exact ⟨rfl, rfl⟩))
    (fun os started H enc _ => lifted os started H enc)
theorem card : Rows.PmpChecksCardSaid :=
  Claim7.holds_tied_plain_at .later [] [.data] true (true, "1c4384b49c5e3182a4a4b6f33867ae6d37786a646ecd3ed390c16602ca81cfd3") false over (fun _ h => by cases h) (by kernel_rfl) (fun _ h => by cases h) pmpChecks_row_tie rfl ⟨rfl, rfl⟩ (by kernel_rfl) rfl
    (fun f fn hf hfn => by
      obtain rfl : f = 7 := Option.some.inj ((show Tryd.prog.funcNamed "anvil/anvillaw04.PmpChecks" = some 7 by kernel_rfl).symm.trans hf) |>.symm
      obtain rfl : fn = Tryd.f7 := (Option.some.inj (Tryd.func7.symm.trans hfn)).symm
      exact ⟨by kernel_rfl, fun j t ht => by
        rw [Tryd.params7] at ht
        have hm : t ∈ [28] := by simpa using Array.mem_of_getElem? ht
        have hall : ([28].all fun u => !Tryd.prog.wantsStandIn u) = true := by kernel_rfl
        exact (show Tryd.prog.wantsStandIn t = false by simpa using List.all_eq_true.1 hall t hm)⟩)
    (by kernel_rfl)
end Go.Proofs.YtckgjfkodgeagabDoor.pmpChecks
namespace Go.Proofs.YtckgjfkodgeagabDoor
theorem pmpChecks_holds : Rows.PmpChecksCardSaid := pmpChecks.card
end Go.Proofs.YtckgjfkodgeagabDoor
