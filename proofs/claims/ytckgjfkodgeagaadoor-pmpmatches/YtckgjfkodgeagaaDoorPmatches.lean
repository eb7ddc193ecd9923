/-
  PmpMatches.
-/
import Derived.Test.YtckgjfkodgeagaaDoorPsh
import Derived.Test.YtckgjfkodgeagaaDoorPak
import Derived.Test.YtckgjfkodgeagaaDoorPcd
import Derived.ShutString
import Derived.ChangeOld
namespace Go.Proofs.YtckgjfkodgeagaaDoor
set_option linter.unusedVariables false
open Go.ChangeShapes Go.WideShapes Go.ChangeAt Go.RowKit Go.Deep
set_option maxRecDepth 100000 in
set_option maxHeartbeats 2000000 in
theorem matches_walk (c : Nat → BitVec 8) (a : Nat → BitVec 64) (i : Int) (v : BitVec 64) (m : Int) (ad : BitVec 64) (s b : Int) (w : World) (hT : Tb w) :
    Calls Tryd.prog 4 #[.agg (askc c a i v m ad s b)] w fun e w' => e = .returned (.bool true) ∧ Below w.heap.size w w' := by
  obtain ⟨W0, hW0, r0, b0, s0⟩ := start1 w (askc c a i v m ad s b) 28
  have HS : Hid (W0.heap.size = w.heap.size + 1) := s0
  have HT : Hid (Tb W0) := hT.next b0.out
  clear s0 hT
  have hA : Hid (∀ W : World, Tb W → Calls Tryd.prog 9 #[.agg (pc c a), .int .u64 (n64 ad), .int .i64 s] W fun e w' => e = .returned (.tuple #[.int .i64 (mA (PC c) (PA a) ad s).1, .bool (mA (PC c) (PA a) ad s).2]) ∧ Below W.heap.size W w') := fun W h => Match_c c a ad s W h
  have hB : Hid (∀ W : World, Calls Tryd.prog 10 #[.agg (pc c a), .int .u64 (n64 ad), .int .i64 s] W fun e w' => e = .returned (.tuple #[.int .i64 (mA (PC c) (PA a) ad s).1, .bool (mA (PC c) (PA a) ad s).2]) ∧ Below W.heap.size W w') := rMatch_c c a ad s
  generalize (mA (PC c) (PA a) ad s).1 = x1 at hA hB
  generalize (mA (PC c) (PA a) ad s).2 = x2 at hA hB
  have HL0 : Hid (∀ j u, (pc c a)[j]? = some u → W0.cell? ⟨w.heap.size, 0 + j, none⟩ = some u) := askc_pmp c a i v m ad s b r0.out
  obtain ⟨_, _, _, c35, c36, _⟩ := askc_rest c a i v m ad s b r0.out
  have HSZ : Hid ((pc c a).size = 32) := pc_size c a
  have hlw : w.heap.size < W0.heap.size := by rw [HS.out]; omega
  have HX : Hid (∀ W1, Below W0.heap.size W0 W1 → (∀ j u, (pc c a)[j]? = some u → W1.cell? ⟨w.heap.size, 0 + j, none⟩ = some u) ∧ W1.cell? ⟨w.heap.size, 35, none⟩ = some (.int .u64 (n64 ad)) ∧ W1.cell? ⟨w.heap.size, 36, none⟩ = some (.int .i64 s)) := fun W1 hb =>
    ⟨fun j u hu => (hb.cell (p := ⟨w.heap.size, 0 + j, none⟩) hlw).trans (HL0.out j u hu), (hb.cell (p := ⟨w.heap.size, 35, none⟩) hlw).trans c35, (hb.cell (p := ⟨w.heap.size, 36, none⟩) hlw).trans c36⟩
  clear r0 hlw
  generalize pc c a = p1 at HL0 HSZ HX hA hB
  go_enter Tryd.func4, Tryd.ntmps4
  go_upto_region 1 with fail
  clear hW0
  go_wp2_with (first | (refine wpList_load_agg (by rfl) _ _ (by rfl) w.heap.size 0 (by rfl) p1 _ HL0.out Tryd.underlying26 (by rfl) (by rw [HSZ.out]; kernel_rfl) ?_) | (refine wpList_load_agg (by rfl) _ _ (by rfl) w.heap.size 0 (by rfl) p1 _ HL1.out Tryd.underlying26 (by rfl) (by rw [HSZ.out]; kernel_rfl) ?_) | (go_at_call 9; refine (hA.out _ HT.out).mono ?_; rintro e w1 ⟨rfl, hb⟩; have HB1 : Hid (Below W0.heap.size W0 w1) := hb; have HL1 : Hid (∀ j u, p1[j]? = some u → w1.cell? ⟨w.heap.size, 0 + j, none⟩ = some u) := (HX.out w1 hb).1; obtain ⟨_, d35, d36⟩ := HX.out w1 hb; clear hb) | (go_at_call 10; refine (hB.out _).mono ?_; rintro e w2 ⟨rfl, hb⟩; have HB2 : Hid (Below W0.heap.size W0 w2) := HB1.out.trans (hb.mono HB1.out.size); clear hb))
  go_ret
  exact ⟨rfl, b0.out.trans (HB2.out.mono (by rw [HS.out]; omega))⟩
end Go.Proofs.YtckgjfkodgeagaaDoor
namespace Go.Proofs.YtckgjfkodgeagaaDoor.pmpMatches
set_option linter.unusedVariables false
open Go.ChangeShapes Go.WideShapes Go.ChangeAt Go.RowKit Go.Deep Go.Lib Go.Shelf
theorem own : ownKnob Tryd.prog.godebug = none := by kernel_rfl
theorem laidOut : laidOutB Tryd.prog = true := by kernel_rfl
set_option maxRecDepth 100000 in
set_option maxHeartbeats 2000000 in
theorem lifted (os : Os) (started : os.Started) (H : Type) (enc : TypeId × Value → H) :
    ReturnsInHanded {} Tryd.checked os 4 .any (fun w args => (Rows.pmpMatchesSpec.pre enc Tryd.prog Tryd.f4 [] false w args ∧ laidMetH Tryd.prog Rows.pmpMatchesRow.laid w) ∧ sizedMet enc Tryd.prog Tryd.f4 (OpenSpec.ofChange Rows.pmpMatchesSpec) false w args)
      (Rows.pmpMatchesSpec.post enc Tryd.prog Tryd.f4 false true false false) := by
  refine returnsInHanded_of_change_and (C := Tryd.checked) (X := fun w _ => laidMetH Tryd.prog Rows.pmpMatchesRow.laid w) (fun _ _ _ hh h => h.of_heap hh) own started (by kernel_rfl) Tryd.func4
    (ChangeSpec.witness_shaped (enc := enc) (C := Tryd.checked) (os := os) (X := fun w _ => laidMetH Tryd.prog Rows.pmpMatchesRow.laid w) false (World.laidAll Tryd.prog os Rows.pmpMatchesRow.laid) #[.agg (askc (fun _ => 0#8) (fun _ => 0#64) 0 0#64 0 0#64 0 0)] 8 (World.laidAll_os _ _ _)
      (World.shaped_of_ZipB (by kernel_rfl) (by kernel_rfl)) (by kernel_rfl) (by kernel_rfl) (by kernel_rfl)
      (by rw [MakeChecks.laidMetH_plain _ _ _ (by kernel_rfl)]; exact laidMet_laidAll _ (by kernel_rfl) (by kernel_rfl))) ?_
  intro W base args ds gs before hval0 hW _ hz0 hL _
  have hval : ∀ (j : Nat) t v, Tryd.f4.params[j]? = some t → args[j]? = some v → Value.okWide Tryd.prog W .any base t v := hval0
  have hW' := hW
  obtain ⟨p, q, hA0, hV, rfl, _, _⟩ := hW
  have hA : DataW.TrodAll enc Tryd.prog W 0 (fun _ => true) true Tryd.f4.params.toList args.toList ds p := hA0
  rw [Tryd.params4] at hA hval
  obtain ⟨v0, d0, rfl, rfl, h0⟩ := trodAll_one hA
  obtain ⟨rfl, rfl⟩ := trodVars_none hV
  have k0 := h0
  have lt0 : ∀ x ∈ p, x.block < W.heap.size := by obtain ⟨m, hm⟩ := k0; exact DataW.trod_lt m _ _ _ hm
  obtain ⟨cs, rfl, _⟩ := okWide_struct Tryd.underlying28 (hval 0 28 v0 rfl rfl)
  obtain ⟨fuel, hf⟩ := h0
  obtain ⟨c, a, i, v, m, ad, s, b, hcs, bi, bm, bs, bb⟩ := open_ask Tryd.underlying28 (by kernel_rfl) ⟨rfl, rfl⟩ ⟨rfl, rfl⟩ ⟨rfl, rfl⟩ ⟨rfl, rfl⟩ ⟨rfl, rfl⟩ ⟨rfl, rfl⟩ ⟨rfl, rfl⟩ hf
  have hcs' : cs = askc c a i v m ad s b := by
    cases cs
    simpa [Value.cells] using congrArg List.toArray hcs
  subst hcs'
  rw [MakeChecks.laidMetH_plain _ _ _ (by kernel_rfl)] at hL
  have hT : Tb W := tb_of_reads (Lib.laidMet.reads hL (.head _))
  clear hA0 hval0 hz0
  refine (matches_walk c a i v m ad s b W hT).mono fun e W' ⟨he, bel⟩ => ?_
  subst he
  exact ⟨_, rfl, _, _, _, [], _, [], hW', trodAll_mk1 (shut_bool Tryd.underlying4 _), trodAll_mk1 (Below.trod laidOut (by kernel_rfl) (of_decide_eq_true (by kernel_rfl)) k0 bel lt0), rfl, bel.frame _, fun h => by cases h⟩
theorem over : Rows.pmpMatchesRow.holds Tryd.pinned (OpenSpec.ofChange Rows.pmpMatchesSpec) :=
  OpenClaim.holds_of_wide 4 Tryd.f4 rfl rfl rfl rfl rfl rfl rfl ⟨rfl, rfl, rfl, rfl, rfl⟩ rfl rfl rfl rfl rfl (by kernel_rfl) Tryd.func4 (by kernel_rfl)
    (of_decide_eq_true (by kernel_rfl)) (by unfold Func.isWrapper; first | (rw [if_pos (by decide +kernel)]; kernel_rfl) | (rw [if_neg (by decide +kernel)]; exact ⟨rfl, rfl⟩))
    (fun os started H enc _ => lifted os started H enc)
theorem card : Rows.PmpMatchesCardSaid :=
  Claim7.holds_tied_plain_at .later [] [.data] true (true, "9495a876eed6a9c5fdb7fcabbf3562b26aecd038efd1b984106a430613d54f38") false over (fun _ h => by cases h) (by kernel_rfl) (fun _ h => by cases h) pmpMatches_row_tie rfl ⟨rfl, rfl⟩ (by kernel_rfl) rfl
    (fun f fn hf hfn => by
      obtain rfl : f = 4 := Option.some.inj ((show Tryd.prog.funcNamed "anvil/anvillaw04.PmpMatches" = some 4 by kernel_rfl).symm.trans hf) |>.symm
      obtain rfl : fn = Tryd.f4 := (Option.some.inj (Tryd.func4.symm.trans hfn)).symm
      exact ⟨by kernel_rfl, fun j t ht => by
        rw [Tryd.params4] at ht
        have hm : t ∈ [28] := by simpa using Array.mem_of_getElem? ht
        have hall : ([28].all fun u => !Tryd.prog.wantsStandIn u) = true := by kernel_rfl
        exact (show Tryd.prog.wantsStandIn t = false by simpa using List.all_eq_true.1 hall t hm)⟩)
    (by kernel_rfl)
end Go.Proofs.YtckgjfkodgeagaaDoor.pmpMatches
namespace Go.Proofs.YtckgjfkodgeagaaDoor
theorem pmpMatches_holds : Rows.PmpMatchesCardSaid := pmpMatches.card
end Go.Proofs.YtckgjfkodgeagaaDoor
