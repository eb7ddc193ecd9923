import Derived.Test.YtddlmenfcbjoaaaGreatDoorK13
import Derived.Test.YtddlmenfcbjoaaaGreatDoorK36
import Derived.Test.YtddlmenfcbjoaaaGreatDoorK42
import Derived.ShutString
import Derived.ChangeOld
namespace Go.Proofs.YtddlmenfcbjoaaaGreatDoor
set_option linter.unusedVariables false
set_option maxRecDepth 100000
open Go.ChangeShapes Go.WideShapes Go.ChangeAt Go.RowKit Go.Deep
theorem execCalls_walk (c : Cp) (tg : BitVec 64) (op : Int) (a : BitVec 64) (z : BitVec 64) (S : St) (ar ai ao : Option Addr) (cr ci co : Nat) (w : World) (hT : Tb w) (hw : StW S) (hs : Bs S (.slice ar S.ram.length cr) (.slice ai S.inp.length ci) (.slice ao S.out.length co) w) (lr : S.ram.length ≤ 140737488355328) (li : S.inp.length ≤ 140737488355328) (lo : S.out.length ≤ 140737488355328) :
    Calls Tryz.prog 3 #[.agg (cpc c), .agg (stc S (.slice ar S.ram.length cr) (.slice ai S.inp.length ci) (.slice ao S.out.length co)), .int .u64 (n64 tg), .int .i64 op, .int .u64 (n64 a), .int .u64 (n64 z)] w fun e w' => e = .returned (.bool true) ∧ Below w.heap.size w w' := by
  cases hok : S.ok with
  | false => exact calls_n c op tg a z S ar ai ao cr ci co w hT hok
  | true => exact calls_y c op tg a z S ar ai ao cr ci co w hT hok hw hs lr li lo
end Go.Proofs.YtddlmenfcbjoaaaGreatDoor
namespace Go.Proofs.YtddlmenfcbjoaaaGreatDoor.execCalls
set_option linter.unusedVariables false
open Go.ChangeShapes Go.WideShapes Go.ChangeAt Go.RowKit Go.Deep Go.Lib Go.Shelf
theorem own : ownKnob Tryz.prog.godebug = none := by kernel_rfl
theorem laidOut : laidOutB Tryz.prog = true := by kernel_rfl
set_option maxRecDepth 100000 in
set_option maxHeartbeats 2000000 in
theorem lifted (os : Os) (started : os.Started) (H : Type) (enc : TypeId × Value → H) :
    ReturnsInHanded {} Tryz.checked os 3 .any (fun w args => (Rows.execCallsSpec.pre enc Tryz.prog Tryz.f3 [] false w args ∧ laidMetH Tryz.prog Rows.execCallsRow.laid w) ∧ sizedMet enc Tryz.prog Tryz.f3 (OpenSpec.ofChange Rows.execCallsSpec) false w args)
      (Rows.execCallsSpec.post enc Tryz.prog Tryz.f3 false true false false) := by
  refine returnsInHanded_of_change_and (C := Tryz.checked) (X := fun w _ => laidMetH Tryz.prog Rows.execCallsRow.laid w) (fun _ _ _ hh h => h.of_heap hh) own started (by kernel_rfl) Tryz.func3
    (ChangeSpec.witness_shaped (enc := enc) (C := Tryz.checked) (os := os) (X := fun w _ => laidMetH Tryz.prog Rows.execCallsRow.laid w) false (World.laidAll Tryz.prog os Rows.execCallsRow.laid) #[.agg (cpc cz), .agg (stc (St.zero 0) (.slice none 0 0) (.slice none 0 0) (.slice none 0 0)), .int .u64 0, .int .i64 0, .int .u64 0, .int .u64 0] 8 (World.laidAll_os _ _ _)
      (World.shaped_of_ZipB (by kernel_rfl) (by kernel_rfl)) (by kernel_rfl) (by kernel_rfl) (by kernel_rfl)
      (by rw [MakeChecks.laidMetH_plain _ _ _ (by kernel_rfl)]; exact laidMet_laidAll _ (by kernel_rfl) (by kernel_rfl))) ?_
  intro W base args ds gs before hval0 hW _ hz0 hL _
  have hval : ∀ (j : Nat) t v, Tryz.f3.params[j]? = some t → args[j]? = some v → Value.okWide Tryz.prog W .any base t v := hval0
  have hW' := hW
  obtain ⟨p, q, hA0, hV, rfl, _, _⟩ := hW
  have hA : DataW.TrodAll enc Tryz.prog W 0 (fun _ => true) true Tryz.f3.params.toList args.toList ds p := hA0
  have hz1 : (DataW.weightsEach Tryz.prog (Tryz.f3.params.toList ++ Rows.execCallsSpec.plain.varTypes Tryz.prog) (ds ++ gs)).all (· ≤ reachBytes) = true := hz0
  rw [Tryz.params3] at hA hval hz1
  obtain ⟨v0, v1, v2, v3, v4, v5, d0, d1, d2, d3, d4, d5, p0, p1, p2, p3, p4, p5, rfl, rfl, rfl, h0, h1, h2, h3, h4, h5⟩ := UC hA
  obtain ⟨rfl, rfl⟩ := trodVars_none hV
  have k0 := h0
  have lt0 : ∀ x ∈ p0, x.block < W.heap.size := by obtain ⟨m, hm⟩ := k0; exact DataW.trod_lt m _ _ _ hm
  have k1 := h1
  have lt1 : ∀ x ∈ p1, x.block < W.heap.size := by obtain ⟨m, hm⟩ := k1; exact DataW.trod_lt m _ _ _ hm
  obtain ⟨c, rfl⟩ := open_cpu1 (hval 0 31 v0 rfl rfl) h0
  have hzA : ∀ n ∈ d1.weights Tryz.prog 35, n ≤ reachBytes := fun n hn => by
    have := List.all_eq_true.1 hz1 n (DataW.weights_mem_each (j := 1) (t := 35) (d := d1) rfl rfl n hn)
    simpa using this
  obtain ⟨S, ar, ai, ao, cr, ci, co, rfl, hBs, hSw, l1, l2, l3⟩ := TW (hval 1 35 v1 rfl rfl) h1 hzA
  obtain ⟨z2, rfl, rfl, rfl, wf2⟩ := open_int Tryz.underlying22 (hval 2 22 v2 rfl rfl) h2
  obtain ⟨tg, rfl⟩ := dV wf2
  obtain ⟨op, rfl, rfl, rfl, wf3⟩ := open_int Tryz.underlying3 (hval 3 3 v3 rfl rfl) h3
  obtain ⟨z4, rfl, rfl, rfl, wf4⟩ := open_int Tryz.underlying22 (hval 4 22 v4 rfl rfl) h4
  obtain ⟨a, rfl⟩ := dV wf4
  obtain ⟨z5, rfl, rfl, rfl, wf5⟩ := open_int Tryz.underlying22 (hval 5 22 v5 rfl rfl) h5
  obtain ⟨z, rfl⟩ := dV wf5
  rw [MakeChecks.laidMetH_plain _ _ _ (by kernel_rfl)] at hL
  have hT : Tb W := UA (Lib.laidMet.reads hL (.head _))
  clear hA0 hval0 hz0
  refine (execCalls_walk c tg op a z S ar ai ao cr ci co W hT hSw hBs l1 l2 l3).mono fun e W' ⟨he, bel⟩ => ?_
  subst he
  exact ⟨_, rfl, _, _, _, [], _, [], hW', trodAll_mk1 (shut_bool Tryz.underlying4 _), UB (Below.trod laidOut (by kernel_rfl) (of_decide_eq_true (by kernel_rfl)) k0 bel lt0) (Below.trod laidOut (by kernel_rfl) (of_decide_eq_true (by kernel_rfl)) k1 bel lt1) (shut_int Tryz.underlying22 (n64_wf tg)) (shut_int Tryz.underlying3 wf3) (shut_int Tryz.underlying22 (n64_wf a)) (shut_int Tryz.underlying22 (n64_wf z)), rfl, bel.frame _, fun h => by cases h⟩
theorem over : Rows.execCallsRow.holds Tryz.pinned (OpenSpec.ofChange Rows.execCallsSpec) :=
  OpenClaim.holds_of_wide 3 Tryz.f3 rfl rfl rfl rfl rfl rfl rfl ⟨rfl, rfl, rfl, rfl, rfl⟩ rfl rfl rfl rfl rfl (by kernel_rfl) Tryz.func3 (by kernel_rfl)
    (of_decide_eq_true (by kernel_rfl)) (by unfold Func.isWrapper; first | (rw [if_pos (by decide +kernel)]; kernel_rfl) | (rw [if_neg (by decide +kernel)]; exact ⟨rfl, rfl⟩))
    (fun os started H enc _ => lifted os started H enc)
theorem card : Rows.ExecCallsCardSaid :=
  Claim7.holds_tied_plain_at .later [] [.data] true (true, "9fc7761e834e6c13ef98c5e052327ace56b2cd5745658ff8878ae77873a01601") true over (fun _ h => by cases h) (by kernel_rfl) (fun _ h => by cases h) execCalls_row_tie rfl ⟨rfl, rfl⟩ (by kernel_rfl) rfl
    (fun f fn hf hfn => by
      obtain rfl : f = 3 := Option.some.inj ((show Tryz.prog.funcNamed "anvil/anvillaw12.ExecCalls" = some 3 by kernel_rfl).symm.trans hf) |>.symm
      obtain rfl : fn = Tryz.f3 := (Option.some.inj (Tryz.func3.symm.trans hfn)).symm
      exact ⟨by kernel_rfl, fun j t ht => by
        rw [Tryz.params3] at ht
        have hm : t ∈ [31, 35, 22, 3, 22, 22] := by simpa using Array.mem_of_getElem? ht
        have hall : ([31, 35, 22, 3, 22, 22].all fun u => !Tryz.prog.wantsStandIn u) = true := by kernel_rfl
        exact (show Tryz.prog.wantsStandIn t = false by simpa using List.all_eq_true.1 hall t hm)⟩)
    (by kernel_rfl)
end Go.Proofs.YtddlmenfcbjoaaaGreatDoor.execCalls
namespace Go.Proofs.YtddlmenfcbjoaaaGreatDoor
theorem execCalls_holds : Rows.ExecCallsCardSaid := execCalls.card
end Go.Proofs.YtddlmenfcbjoaaaGreatDoor
