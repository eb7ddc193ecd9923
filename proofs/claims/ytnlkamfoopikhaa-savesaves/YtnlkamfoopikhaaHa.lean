/-
  Ha.
-/
import Derived.Test.YtnlkamfoopikhaaBop
import Derived.Test.YtnlkamfoopikhaaCop
namespace Go.Proofs.Ytnlkamfoopikhaa
set_option linter.unusedVariables false
open Go.ChangeShapes Go.WideShapes Go.ChangeAt Go.RowKit Go.Deep
/-- A whole's cells. -/
def whc (K : Cp) (S : St) (vr vi vo : Value) : Array Value := ((cpc K).toList ++ (stc S vr vi vo).toList).toArray
theorem whc_size (K : Cp) (S : St) (vr vi vo : Value) : (whc K S vr vi vo).size = 97 := by
  unfold whc; rw [List.size_toArray, List.length_append, Array.length_toList, Array.length_toList, cpc_size]; rfl
theorem whc_c (K : Cp) (S : St) (vr vi vo : Value) (j : Nat) (v : Value) (h : (cpc K)[j]? = some v) : (whc K S vr vi vo)[0 + j]? = some v := by
  have hj : j < 82 := by
    by_cases q : j < 82
    · exact q
    · rw [Array.getElem?_eq_none (by rw [cpc_size]; omega)] at h; cases h
  unfold whc
  rw [Nat.zero_add, List.getElem?_toArray, List.getElem?_append_left (by rw [Array.length_toList, cpc_size]; exact hj), Array.getElem?_toList]
  exact h
theorem whc_b (K : Cp) (S : St) (vr vi vo : Value) (j : Nat) (v : Value) (h : (stc S vr vi vo)[j]? = some v) : (whc K S vr vi vo)[82 + j]? = some v := by
  unfold whc
  rw [List.getElem?_toArray, List.getElem?_append_right (by rw [Array.length_toList, cpc_size]; omega), Array.length_toList, cpc_size, show 82 + j - 82 = j by omega, Array.getElem?_toList]
  exact h
section
variable {H : Type} {enc : TypeId × Value → H} {w : World} {base : Nat} {held : Bool}
theorem cellsWh : Try.prog.cellsOf 37 = 97 := by kernel_rfl
set_option maxRecDepth 100000 in
theorem open_whole {fuel : Nat} {cs : List Value} {y : DataW H × List MemPlace} (h : DataW.trod enc Try.prog w base (fun _ => true) held fuel 37 cs = some y) (hz : ∀ q ∈ y.1.weights Try.prog 37, q ≤ reachBytes) :
    ∃ (K : Cp) (S : St) (ar ai ao : Option Addr) (cr ci co : Nat), cs = (whc K S (.slice ar S.ram.length cr) (.slice ai S.inp.length ci) (.slice ao S.out.length co)).toList ∧ Bs S (.slice ar S.ram.length cr) (.slice ai S.inp.length ci) (.slice ao S.out.length co) w ∧ StW S ∧
      S.ram.length ≤ 140737488351232 ∧ S.inp.length ≤ 140737488351232 ∧ S.out.length ≤ 140737488351232 := by
  obtain ⟨xs, n, _, rfl, hl, hlen, hf⟩ := DataW.trod_struct Try.underlying37 h
  rw [cellsWh] at hl
  match xs, (show xs.length = 2 from hlen), hf, hz with
  | [y0, y1], _, hf, hz =>
    have g0 : DataW.trod enc Try.prog w base (fun _ => true) held n 31 (cs.take 82) = some y0 := by
      have := hf 0 _ rfl
      simpa [cells_cpu] using this
    have g1 : DataW.trod enc Try.prog w base (fun _ => true) held n 35 ((cs.drop 82).take 15) = some y1 := by
      have := hf 1 _ rfl
      simpa [cellsSt] using this
    have z1 : ∀ q ∈ y1.1.weights Try.prog 35, q ≤ reachBytes := fun q hq => hz q (by
      simp only [DataW.weights, Try.underlying37]
      exact DataW.weights_mem_each (j := 1) (t := 35) (d := y1.1) rfl rfl q hq)
    obtain ⟨K, hK⟩ := open_cpu g0
    obtain ⟨S, ar, ai, ao, cr, ci, co, hS, hBs, hW, l1, l2, l3⟩ := open_state g1 z1
    refine ⟨K, S, ar, ai, ao, cr, ci, co, ?_, hBs, hW, l1, l2, l3⟩
    have e3 : cs = cs.take 82 ++ (cs.drop 82).take 15 := by
      have q1 : (cs.drop 82).take 15 = cs.drop 82 := List.take_of_length_le (by rw [List.length_drop, hl]; omega)
      rw [q1, List.take_append_drop]
    rw [e3, hK, hS]
    unfold whc
    simp
end
end Go.Proofs.Ytnlkamfoopikhaa
