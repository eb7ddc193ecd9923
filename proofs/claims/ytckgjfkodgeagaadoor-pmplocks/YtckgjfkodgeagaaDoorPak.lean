/-
  The cells of an Ask in memory.
-/
import Derived.Test.YtckgjfkodgeagaaDoorPop
namespace Go.Proofs.YtckgjfkodgeagaaDoor
set_option linter.unusedVariables false
open Go.ChangeShapes Go.WideShapes Go.ChangeAt Go.RowKit Go.Deep
theorem askc_pmp (c : Nat → BitVec 8) (a : Nat → BitVec 64) (i : Int) (v : BitVec 64) (m : Int) (ad : BitVec 64) (s b : Int) {w : World} {g : Nat} {T : TypeId} (h : Row w g (askc c a i v m ad s b) T) : ∀ j u, (pc c a)[j]? = some u → w.cell? ⟨g, 0 + j, none⟩ = some u := fun j u hu => by
  have hj : j < 32 := by
    by_cases hj : j < 32
    · exact hj
    · rw [Array.getElem?_eq_none (by rw [pc_size]; omega)] at hu; cases hu
  rw [h.cell, Nat.zero_add, askc, Array.getElem?_append_left (by rw [pc_size]; exact hj)]; exact hu
theorem askc_rest (c : Nat → BitVec 8) (a : Nat → BitVec 64) (i : Int) (v : BitVec 64) (m : Int) (ad : BitVec 64) (s b : Int) {w : World} {g : Nat} {T : TypeId} (h : Row w g (askc c a i v m ad s b) T) :
    w.cell? ⟨g, 32, none⟩ = some (.int .i64 i) ∧ w.cell? ⟨g, 33, none⟩ = some (.int .u64 (n64 v)) ∧ w.cell? ⟨g, 34, none⟩ = some (.int .i64 m) ∧ w.cell? ⟨g, 35, none⟩ = some (.int .u64 (n64 ad)) ∧ w.cell? ⟨g, 36, none⟩ = some (.int .i64 s) ∧ w.cell? ⟨g, 37, none⟩ = some (.int .i64 b) := by
  have t : ∀ j, 32 ≤ j → w.cell? ⟨g, j, none⟩ = #[Value.int .i64 i, .int .u64 (n64 v), .int .i64 m, .int .u64 (n64 ad), .int .i64 s, .int .i64 b][j - 32]? := fun j hj => by
    rw [h.cell, askc, Array.getElem?_append_right (by rw [pc_size]; exact hj), pc_size]
  exact ⟨t 32 (by omega), t 33 (by omega), t 34 (by omega), t 35 (by omega), t 36 (by omega), t 37 (by omega)⟩
theorem later_at {W : World} {g j : Nat} {v : Value} (hg : g < W.heap.size) (h : W.cell? ⟨g, j, none⟩ = some v) : ∀ x : Later W, x.1.cell? ⟨g, j, none⟩ = some v := fun x => (later_cell x (by exact hg)).trans h
end Go.Proofs.YtckgjfkodgeagaaDoor
