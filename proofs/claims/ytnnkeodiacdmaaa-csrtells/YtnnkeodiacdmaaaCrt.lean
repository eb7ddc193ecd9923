/-
  CsrTells.
-/
import Derived.Test.YtnnkeodiacdmaaaCwt
import Derived.Test.YtnnkeodiacdmaaaCsz
namespace Go.Proofs.Ytnnkeodiacdmaaa.csrTells
open Go.ChangeShapes Go.WideShapes Go.ChangeAt Go.RowKit Go.Deep
theorem own : ownKnob Try.prog.godebug = none := by kernel_rfl
theorem laidOut : laidOutB Try.prog = true := by kernel_rfl
set_option maxRecDepth 100000 in
theorem lifted (os : Os) (started : os.Started) (H : Type) (enc : TypeId × Value → H) :
    ReturnsInHanded {} Try.checked os 8 .any (Rows.csrTellsSpec.pre6 enc Try.prog Try.f8 Rows.csrTellsRow.domain false) (Rows.csrTellsSpec.post enc Try.prog Try.f8 false true false false) := by
  refine returnsInHanded_of_change_sized (C := Try.checked) own started (by kernel_rfl) Try.func8
    (ChangeSpec.witness6 (enc := enc) (C := Try.checked) false ⟨#[], #[.agg (runk cz 0#64 0#64 (.slice none 0 0)), .agg (akk cz 0 0#64 0#64 0#64)], []⟩ 8 (by kernel_rfl) (by kernel_rfl) (by kernel_rfl) (by kernel_rfl)) ?_
  intro W base args ds gs before hval0 hW hcnd hz0 _
  have hval : ∀ (j : Nat) t v, Try.f8.params[j]? = some t → args[j]? = some v → Value.okWide Try.prog W .any base t v := hval0
  have hW' := hW
  obtain ⟨p, q, hA0, hV, rfl, hfz, hnd⟩ := hW
  have hA : DataW.TrodAll enc Try.prog W 0 (fun _ => true) true Try.f8.params.toList args.toList ds p := hA0
  have hz1 : (DataW.weightsEach Try.prog (Try.f8.params.toList ++ Rows.csrTellsSpec.plain.varTypes Try.prog) (ds ++ gs)).all (· ≤ reachBytes) = true := hz0
  rw [Try.params8] at hA hval hz1
  obtain ⟨v0, v1, d0, d1, p0, p1, rfl, rfl, rfl, h0, h1⟩ := trodAll_two hA
  obtain ⟨rfl, rfl⟩ := trodVars_none hV
  have k0 := h0
  have k1 := h1
  have lt0 : ∀ x ∈ p0, x.block < W.heap.size := by obtain ⟨m, hm⟩ := k0; exact DataW.trod_lt m _ _ _ hm
  have lt1 : ∀ x ∈ p1, x.block < W.heap.size := by obtain ⟨m, hm⟩ := k1; exact DataW.trod_lt m _ _ _ hm
  obtain ⟨cs, rfl, _⟩ := okWide_struct Try.underlying42 (hval 0 42 v0 rfl rfl)
  obtain ⟨fuel, hf⟩ := h0
  obtain ⟨k, m, t, vO, O, hcs, hO, hok, hol⟩ := open_run hf (fun n hn => by
    have := List.all_eq_true.1 hz1 n (DataW.weights_mem_each (j := 0) (t := 42) (d := d0) rfl rfl n hn)
    simpa using this)
  have hcs' : cs = runk k m t vO := by
    cases cs
    simpa [Value.cells] using congrArg List.toArray hcs
  subst hcs'
  obtain ⟨k2, n2, x2, m2, t2, rfl, bn2⟩ := open_akk1 (hval 1 50 v1 rfl rfl) h1
  clear hA0 hval0
  refine (ctells_walk Pr_c Read_c Write_c k m t vO O k2 n2 x2 m2 t2 W hO hol hok).mono fun e W' ⟨he, bel⟩ => ?_
  subst he
  exact ⟨_, rfl, _, _, _, [], _, [], hW', trodAll_mk1 (shut_bool Try.underlying4 _), trodAll_mk2 (Below.trod laidOut (by kernel_rfl) (of_decide_eq_true (by kernel_rfl)) k0 bel lt0) (Below.trod laidOut (by kernel_rfl) (of_decide_eq_true (by kernel_rfl)) k1 bel lt1), rfl, bel.frame _, fun h => by cases h⟩
theorem over : Rows.csrTellsRow.holds Try.pinned (OpenSpec.ofChange Rows.csrTellsSpec) :=
  OpenClaim.holds_of_wide 8 Try.f8 rfl rfl rfl rfl rfl rfl rfl ⟨rfl, rfl, rfl, rfl, rfl⟩ rfl rfl rfl rfl rfl (by kernel_rfl) Try.func8 (by kernel_rfl)
    (of_decide_eq_true (by kernel_rfl)) (by unfold Func.isWrapper; first | (rw [if_pos (by decide +kernel)]; kernel_rfl) | (rw [if_neg (by decide +kernel)]; exact ⟨rfl, rfl⟩))
    (fun os started H enc _ => lifted os started H enc)
end Go.Proofs.Ytnnkeodiacdmaaa.csrTells
namespace Go.Proofs.Ytnnkeodiacdmaaa
theorem csrTells_holds : Rows.CsrTellsSaid := csrTells.over
end Go.Proofs.Ytnnkeodiacdmaaa
