/-
  An Ask, a Tally, a Run that came in, opened.
-/
import Derived.Test.YtnejdfkmnblfeaaCop
namespace Go.Proofs.Ytnejdfkmnblfeaa
set_option linter.unusedVariables false
open Go.ChangeShapes Go.WideShapes Go.ChangeAt Go.RowKit Go.Deep
/-- The cells of an Ask. -/
def akk (k : Cp) (n : Int) (v m t : BitVec 64) : Array Value := cpc k ++ #[.int .i64 n, .int .u64 (n64 v), .int .u64 (n64 m), .int .u64 (n64 t)]
theorem akk_size (k : Cp) (n : Int) (v m t : BitVec 64) : (akk k n v m t).size = 86 := by simp [akk, cpc_size]
/-- The cells of a Tally. -/
def tly (k u : Cp) (r c m : Bool) : Array Value := cpc k ++ cpc u ++ #[.bool r, .bool c, .bool m]
theorem tly_size (k u : Cp) (r c m : Bool) : (tly k u r c m).size = 167 := by simp [tly, cpc_size]
theorem Row.akk {w : World} {g : Nat} {k : Cp} {n : Int} {v m t : BitVec 64} {T : TypeId} (h : Row w g (akk k n v m t) T) :
    At w g 0 k ∧ w.cell? ⟨g, 82, none⟩ = some (.int .i64 n) ∧ w.cell? ⟨g, 83, none⟩ = some (.int .u64 (n64 v)) ∧ w.cell? ⟨g, 84, none⟩ = some (.int .u64 (n64 m)) ∧ w.cell? ⟨g, 85, none⟩ = some (.int .u64 (n64 t)) := by
  have q : ∀ j, 82 ≤ j → w.cell? ⟨g, j, none⟩ = #[Value.int .i64 n, .int .u64 (n64 v), .int .u64 (n64 m), .int .u64 (n64 t)][j - 82]? := fun j hj => by
    rw [h.cell]; unfold Go.Proofs.Ytnejdfkmnblfeaa.akk; rw [Array.getElem?_append_right (by rw [cpc_size]; exact hj), cpc_size]
  refine ⟨fun j hj => ?_, q 82 (by omega), q 83 (by omega), q 84 (by omega), q 85 (by omega)⟩
  rw [h.cell, Nat.zero_add]; unfold Go.Proofs.Ytnejdfkmnblfeaa.akk; rw [Array.getElem?_append_left (by rw [cpc_size]; exact hj), cpc_at _ _ hj]
theorem Row.tly {w : World} {g : Nat} {k u : Cp} {r c m : Bool} {T : TypeId} (h : Row w g (tly k u r c m) T) :
    At w g 0 k ∧ At w g 82 u ∧ w.cell? ⟨g, 164, none⟩ = some (.bool r) ∧ w.cell? ⟨g, 165, none⟩ = some (.bool c) ∧ w.cell? ⟨g, 166, none⟩ = some (.bool m) := by
  have hs : (cpc k ++ cpc u).size = 164 := by simp [cpc_size]
  have q : ∀ j, 164 ≤ j → w.cell? ⟨g, j, none⟩ = #[Value.bool r, .bool c, .bool m][j - 164]? := fun j hj => by
    rw [h.cell]; unfold Go.Proofs.Ytnejdfkmnblfeaa.tly; rw [Array.getElem?_append_right (by rw [hs]; exact hj), hs]
  refine ⟨fun j hj => ?_, fun j hj => ?_, q 164 (by omega), q 165 (by omega), q 166 (by omega)⟩
  · rw [h.cell, Nat.zero_add]; unfold Go.Proofs.Ytnejdfkmnblfeaa.tly; rw [Array.getElem?_append_left (by rw [hs]; omega), Array.getElem?_append_left (by rw [cpc_size]; omega), cpc_at _ _ hj]
  · rw [h.cell]; unfold Go.Proofs.Ytnejdfkmnblfeaa.tly; rw [Array.getElem?_append_left (by rw [hs]; omega), Array.getElem?_append_right (by rw [cpc_size]; omega), cpc_size, show 82 + j - 82 = j by omega, cpc_at _ _ hj]
section
variable {H : Type} {enc : TypeId × Value → H} {w : World} {base : Nat} {held : Bool}
theorem cells_int : Try.prog.cellsOf 3 = 1 := by kernel_rfl
theorem cells_u64 : Try.prog.cellsOf 22 = 1 := by kernel_rfl
theorem cells_bool : Try.prog.cellsOf 4 = 1 := by kernel_rfl
end
end Go.Proofs.Ytnejdfkmnblfeaa
