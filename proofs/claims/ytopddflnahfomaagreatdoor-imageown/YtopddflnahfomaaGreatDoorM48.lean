/-
  Iux.
-/
import Derived.Test.YtopddflnahfomaaGreatDoorM45
import Derived.Test.YtopddflnahfomaaGreatDoorM47
namespace Go.Proofs.YtopddflnahfomaaGreatDoor.imageOwn
set_option linter.unusedVariables false
open Go.ChangeShapes Go.WideShapes Go.ChangeAt Go.RowKit Go.Deep Go.Lib Go.Shelf
--@WHOLE
theorem cells26 : Tryz.prog.cellsOf 26 = 3 := by kernel_rfl
set_option maxRecDepth 100000 in
set_option maxHeartbeats 2000000 in
theorem lifted (os : Os) (started : os.Started) (H : Type) (enc : TypeId × Value → H) :
    ReturnsInHanded {} Tryz.checked os 3 .any (fun w args => (Rows.imageOwnSpec.pre enc Tryz.prog Tryz.f3 [] false w args ∧ laidMetH Tryz.prog Rows.imageOwnRow.laid w) ∧ sizedMet enc Tryz.prog Tryz.f3 (OpenSpec.ofChange Rows.imageOwnSpec) false w args)
      (Rows.imageOwnSpec.post enc Tryz.prog Tryz.f3 false true false false) := by
  refine returnsInHanded_of_change_and (C := Tryz.checked) (X := fun w _ => laidMetH Tryz.prog Rows.imageOwnRow.laid w) (fun _ _ _ hh h => h.of_heap hh) own started (by kernel_rfl) Tryz.func3
    (ChangeSpec.witness_shaped (enc := enc) (C := Tryz.checked) (os := os) (X := fun w _ => laidMetH Tryz.prog Rows.imageOwnRow.laid w) false (worldW os) #[.agg #[.int .u64 0, .slice none 0 0, .slice none 0 0]] 8 (worldW_os _)
      (World.shaped_of_ZipB (by kernel_rfl) (by kernel_rfl)) (by kernel_rfl) (by kernel_rfl) (by kernel_rfl)
      (worldW_met os _)) ?_
  intro W base args ds gs before hval0 hW _ hz0 hL _
  have hval : ∀ (j : Nat) t v, Tryz.f3.params[j]? = some t → args[j]? = some v → Value.okWide Tryz.prog W .any base t v := hval0
  have hW' := hW
  obtain ⟨p, q, hA0, hV, rfl, _, _⟩ := hW
  have hA : DataW.TrodAll enc Tryz.prog W 0 (fun _ => true) true Tryz.f3.params.toList args.toList ds p := hA0
  have hz1 : (DataW.weightsEach Tryz.prog (Tryz.f3.params.toList ++ Rows.imageOwnSpec.plain.varTypes Tryz.prog) (ds ++ gs)).all (· ≤ reachBytes) = true := hz0
  rw [Tryz.params3] at hA hval hz1
  obtain ⟨v0, d0, rfl, rfl, h0⟩ := trodAll_one hA
  obtain ⟨rfl, rfl⟩ := trodVars_none hV
  have k0 := h0
  have lt0 : ∀ x ∈ p, x.block < W.heap.size := by obtain ⟨m, hm⟩ := k0; exact DataW.trod_lt m _ _ _ hm
  obtain ⟨c0, c1, c2, y0, y1, y2, m, rfl, rfl, rfl, g0, g1, g2⟩ := Go.Joins.open_agg3 Tryz.underlying26 (by kernel_rfl) cells26 (hval 0 26 v0 rfl rfl) h0
  obtain ⟨i0, e0, hy0, w0⟩ := DataW.trod_int Tryz.underlying22 g0
  simp only [List.cons.injEq, and_true] at e0
  subst e0
  obtain ⟨E, rfl⟩ := n64_of w0
  have hzA : ∀ n ∈ (DataW.agg [y0.1, y1.1, y2.1] : DataW H).weights Tryz.prog 26, n ≤ reachBytes := fun n hn => by
    have := List.all_eq_true.1 hz1 n (DataW.weights_mem_each (j := 0) (t := 26) (d := .agg [y0.1, y1.1, y2.1]) rfl rfl n hn)
    simpa using this
  have hz23 : ∀ n ∈ y1.1.weights Tryz.prog 23, n ≤ reachBytes := fun n hn => hzA n (by
    simp only [DataW.weights, Tryz.underlying26]
    exact DataW.weights_mem_each (j := 1) (t := 23) (d := y1.1) rfl rfl n hn)
  have hz24 : ∀ n ∈ y2.1.weights Tryz.prog 24, n ≤ reachBytes := fun n hn => hzA n (by
    simp only [DataW.weights, Tryz.underlying26]
    exact DataW.weights_mem_each (j := 2) (t := 24) (d := y2.1) rfl rfl n hn)
  obtain ⟨L, hS, hSok, hLb⟩ := open_segs g1 hz23
  obtain ⟨N, hN, hNs, hNb, hnil⟩ := open_syms g2 hz24
  have hDD : ∀ j, ∃ l, j < L.length → l.length = (sg L j).n ∧ Byt W (.slice (sg L j).m (sg L j).n (sg L j).c) l ∧ AllB l := fun j => by
    by_cases hj : j < L.length
    · obtain ⟨l, hl⟩ := (hSok j hj).2
      exact ⟨l, fun _ => hl⟩
    · exact ⟨[], fun h => absurd h hj⟩
  obtain ⟨D, hD⟩ := Classical.axiomOfChoice hDD
  have hArg : Arg W c1 c2 L N D := ⟨⟨hS, hN, fun j hj => (hSok j hj).1, hNs⟩, fun j hj => ⟨(hD j hj).1, (hD j hj).2.1⟩, fun j hj => (hD j hj).2.2, hnil, hLb, hNb⟩
  obtain ⟨hT, hE⟩ := laid_gives hL
  clear hA0 hval0 hz0
  refine (own_c E c1 c2 L N D W hArg hT hE).mono fun e W' ⟨he, bel⟩ => ?_
  subst he
  exact ⟨_, rfl, _, _, _, [], _, [], hW', trodAll_mk1 (shut_bool Tryz.underlying4 _), trodAll_mk1 (Below.trod laidOut (by kernel_rfl) (of_decide_eq_true (by kernel_rfl)) k0 bel lt0), rfl, bel.frame _, fun h => by cases h⟩
theorem over : Rows.imageOwnRow.holds Tryz.pinned (OpenSpec.ofChange Rows.imageOwnSpec) :=
  OpenClaim.holds_of_wide 3 Tryz.f3 rfl rfl rfl rfl rfl rfl rfl ⟨rfl, rfl, rfl, rfl, rfl⟩ rfl rfl rfl rfl rfl (by kernel_rfl) Tryz.func3 (by kernel_rfl)
    (of_decide_eq_true (by kernel_rfl)) (by unfold Func.isWrapper; first | (rw [if_pos (by decide +kernel)]; kernel_rfl) | (rw [if_neg (by decide +kernel)]; exact ⟨rfl, rfl⟩))
    (fun os started H enc _ => lifted os started H enc)
theorem card : Rows.ImageOwnCardSaid :=
  Claim7.holds_tied_plain_at .later [] [.data, .handle, .data, .pinned, .pinned] true (true, "08eea4fd66b96e986f58c42a80d930066a1f25ace3c46ae3fab2cf74f9d8d64b") true over (fun _ h => by cases h) (by kernel_rfl) (fun _ h => by cases h) imageOwn_row_tie rfl ⟨rfl, rfl⟩ (by kernel_rfl) rfl
    (fun f fn hf hfn => by
      obtain rfl : f = 3 := Option.some.inj ((show Tryz.prog.funcNamed "anvil/anvillaw02.ImageOwn" = some 3 by kernel_rfl).symm.trans hf) |>.symm
      obtain rfl : fn = Tryz.f3 := (Option.some.inj (Tryz.func3.symm.trans hfn)).symm
      exact ⟨by kernel_rfl, fun j t ht => by
        rw [Tryz.params3] at ht
        have hm : t ∈ [26] := by simpa using Array.mem_of_getElem? ht
        have hall : ([26].all fun u => !Tryz.prog.wantsStandIn u) = true := by kernel_rfl
        exact (show Tryz.prog.wantsStandIn t = false by simpa using List.all_eq_true.1 hall t hm)⟩)
    (by kernel_rfl)
end Go.Proofs.YtopddflnahfomaaGreatDoor.imageOwn
namespace Go.Proofs.YtopddflnahfomaaGreatDoor
theorem imageOwn_holds : Rows.ImageOwnCardSaid := imageOwn.card
end Go.Proofs.YtopddflnahfomaaGreatDoor
#print axioms Go.Proofs.YtopddflnahfomaaGreatDoor.imageOwn_holds
