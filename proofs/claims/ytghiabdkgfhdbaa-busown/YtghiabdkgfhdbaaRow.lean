/-
  BusOwn holds.
-/
import Derived.Test.YtghiabdkgfhdbaaBoz
import Derived.SizedLaws
import Derived.ShutString
import Derived.ChangeOld
namespace Go.Proofs.Ytghiabdkgfhdbaa.busOwn
open Go.ChangeShapes Go.WideShapes Go.ChangeAt Go.RowKit Go.Deep
theorem own : ownKnob Try.prog.godebug = none := by kernel_rfl
theorem laidOut : laidOutB Try.prog = true := by kernel_rfl
theorem walk (S : St) (ar ai ao : Option Addr) (cr ci co : Nat) (vO : Value) (O : List Cal) (w : World) (hs : Bs S (.slice ar S.ram.length cr) (.slice ai S.inp.length ci) (.slice ao S.out.length co) w) (hw : StW S) (lr : S.ram.length ≤ 140737488355328) (li : S.inp.length ≤ 140737488355328) (lo : S.out.length ≤ 140737488355328) (hO : Cals w vO O) (hok : ∀ j, j < O.length → CalOk w (O.getD j cal0)) (hol : O.length * 88 ≤ 140737488351232) :
    Calls Try.prog 3 #[.agg (stoc S (.slice ar S.ram.length cr) (.slice ai S.inp.length ci) (.slice ao S.out.length co) vO)] w fun e w' => e = .returned (.bool true) ∧ Below w.heap.size w w' := by
  cases hk : S.ok with
  | false => exact busown_no S ar ai ao cr ci co w hs lr li lo hk vO
  | true =>
    have hO2 := hO
    obtain ⟨a, cap, rfl, _⟩ := hO
    exact busown_y S ar ai ao cr ci co w hs lr li lo hk hw a cap O hO2 hok hol
set_option maxRecDepth 100000 in
theorem lifted (os : Os) (started : os.Started) (H : Type) (enc : TypeId × Value → H) :
    ReturnsInHanded {} Try.checked os 3 .any (Rows.busOwnSpec.pre6 enc Try.prog Try.f3 Rows.busOwnRow.domain false) (Rows.busOwnSpec.post enc Try.prog Try.f3 false true false false) := by
  refine returnsInHanded_of_change_sized (C := Try.checked) own started (by kernel_rfl) Try.func3
    (ChangeSpec.witness6 (enc := enc) (C := Try.checked) false ⟨#[], #[.agg #[.slice none 0 0, .int .u32 0, .int .u64 0, .int .u64 0, .bool false, .bool false, .int .u8 0, .int .u8 0, .int .u8 0, .int .u8 0, .bool false, .slice none 0 0, .slice none 0 0, .int .i64 0, .int .i64 0, .slice none 0 0]], []⟩ 8 (by kernel_rfl) (by kernel_rfl) (by kernel_rfl) (by kernel_rfl)) ?_
  intro W base args ds gs before hval0 hW hcnd hz0 _
  have hval : ∀ (j : Nat) t v, Try.f3.params[j]? = some t → args[j]? = some v → Value.okWide Try.prog W .any base t v := hval0
  have hW' := hW
  obtain ⟨p, q, hA0, hV, rfl, hfz, hnd⟩ := hW
  have hA : DataW.TrodAll enc Try.prog W 0 (fun _ => true) true Try.f3.params.toList args.toList ds p := hA0
  have hz1 : (DataW.weightsEach Try.prog (Try.f3.params.toList ++ Rows.busOwnSpec.plain.varTypes Try.prog) (ds ++ gs)).all (· ≤ reachBytes) = true := hz0
  rw [Try.params3] at hA hval hz1
  obtain ⟨v0, d0, rfl, rfl, h0⟩ := trodAll_one hA
  obtain ⟨rfl, rfl⟩ := trodVars_none hV
  have k0 := h0
  have lt0 : ∀ x ∈ p, x.block < W.heap.size := by obtain ⟨m, hm⟩ := k0; exact DataW.trod_lt m _ _ _ hm
  obtain ⟨cs, rfl, hsz⟩ := okWide_struct Try.underlying29 (hval 0 29 v0 rfl rfl)
  obtain ⟨fuel, hf⟩ := h0
  obtain ⟨S, ar, ai, ao, cr, ci, co, vO, O, hcs, hs, hw, lr, li, lo, hO, hok, hol⟩ := open_story hf (fun n hn => by
    have := List.all_eq_true.1 hz1 n (DataW.weights_mem_each (j := 0) (t := 29) (d := d0) rfl rfl n hn)
    simpa using this)
  have hcs' : cs = stoc S (.slice ar S.ram.length cr) (.slice ai S.inp.length ci) (.slice ao S.out.length co) vO := by
    cases cs
    simpa [Value.cells] using congrArg List.toArray hcs
  subst hcs'
  clear hA0 hval0
  refine (walk S ar ai ao cr ci co vO O W hs hw (by omega) (by omega) (by omega) hO hok hol).mono fun e W' ⟨he, bel⟩ => ?_
  subst he
  exact ⟨_, rfl, _, _, _, [], _, [], hW', trodAll_mk1 (shut_bool Try.underlying4 _), trodAll_mk1 (Below.trod laidOut (by kernel_rfl) (of_decide_eq_true (by kernel_rfl)) k0 bel lt0), rfl, bel.frame _, fun h => by cases h⟩
theorem over : Rows.busOwnRow.holds Try.pinned (OpenSpec.ofChange Rows.busOwnSpec) :=
  OpenClaim.holds_of_wide 3 Try.f3 rfl rfl rfl rfl rfl rfl rfl ⟨rfl, rfl, rfl, rfl, rfl⟩ rfl rfl rfl rfl rfl (by kernel_rfl) Try.func3 (by kernel_rfl)
    (of_decide_eq_true (by kernel_rfl)) (by unfold Func.isWrapper; first | (rw [if_pos (by decide +kernel)]; kernel_rfl) | (rw [if_neg (by decide +kernel)]; exact ⟨rfl, rfl⟩))
    (fun os started H enc _ => lifted os started H enc)
end Go.Proofs.Ytghiabdkgfhdbaa.busOwn
namespace Go.Proofs.Ytghiabdkgfhdbaa
theorem busOwn_holds : Rows.BusOwnSaid := busOwn.over
end Go.Proofs.Ytghiabdkgfhdbaa
