/-
  Bcp.
-/
import Derived.Test.YtnlkamfoopikhaaBsv
namespace Go.Proofs.Ytnlkamfoopikhaa
set_option linter.unusedVariables false
open Go.ChangeShapes Go.WideShapes Go.ChangeAt Go.RowKit Go.Deep
/-- Copied, half way: the parameter's box p, the copy t, the result r. -/
structure Cpd (C : Array Value) (p r t : Nat) (cs : Array Value) (w0 w : World) : Prop where
  b : Below w0.heap.size w0 w
  hp : w.heap[p]? = some (.cells C 35 (0, 0))
  hr : ∃ z : Array Value, w.heap[r]? = some (.cells z 35 (0, 0)) ∧ z.size = 15
  ht : w.heap[t]? = some (.cells cs 35 (0, 0))
  n1 : p ≠ t
  n2 : r ≠ t
  lt : w0.heap.size ≤ t
theorem Cpd.grow {C cs : Array Value} {p r t : Nat} {w0 w w' : World} (h : Cpd C p r t cs w0 w) (hb : Below w.heap.size w w') : Cpd C p r t cs w0 w' := by
  have k : ∀ {g : Nat} {o : Obj}, w.heap[g]? = some o → w'.heap[g]? = some o := fun {g o} hg => by rw [hb.block g (Array.getElem?_eq_some_iff.1 hg).1]; exact hg
  obtain ⟨z, hz, hs⟩ := h.hr
  exact ⟨h.b.trans (hb.mono h.b.size), k h.hp, ⟨z, k hz, hs⟩, k h.ht, h.n1, h.n2, h.lt⟩
theorem Cpd.set {C cs : Array Value} {p r t : Nat} {w0 w : World} (h : Cpd C p r t cs w0 w) (j : Nat) (v : Value) : Cpd C p r t (cs.setIfInBounds j v) w0 (w.setCell ⟨t, j, none⟩ v) := by
  obtain ⟨z, hz, hs⟩ := h.hr
  refine ⟨h.b.setCell h.lt v, ?_, ⟨z, ?_, hs⟩, heap_setCell_same w t j cs _ v h.ht, h.n1, h.n2, h.lt⟩
  · rw [Below.heap_setCell w ⟨t, j, none⟩ v p h.n1]; exact h.hp
  · rw [Below.heap_setCell w ⟨t, j, none⟩ v r h.n2]; exact hz
theorem Cpd.pcell {C cs : Array Value} {p r t : Nat} {w0 w : World} (h : Cpd C p r t cs w0 w) (j : Nat) : w.cell? ⟨p, j, none⟩ = C[j]? := cell_of_row w p j _ _ _ h.hp
theorem Cpd.tcell {C cs : Array Value} {p r t : Nat} {w0 w : World} (h : Cpd C p r t cs w0 w) (j : Nat) : w.cell? ⟨t, j, none⟩ = cs[j]? := cell_of_row w t j _ _ _ h.ht
theorem Cpd.tfree {C cs : Array Value} {p r t : Nat} {w0 w : World} (h : Cpd C p r t cs w0 w) (j : Nat) : w.frozen? ⟨t, j, none⟩ = false := frozen_of_row w t j _ _ h.ht
theorem below_nil {w w' : World} (h : w.grownBy w' (Value.slice none 0 0).ownBlock) : Below w.heap.size w w' := (Below.refl _ _).grown h (Nat.le_refl _) (fun k hk => by cases hk)
theorem Cpd.start (w : World) (C Z : Array Value) (hZ : Z.size = 15) : Cpd C w.heap.size (w.heap.size + 1) (w.heap.size + 2) C w (((w.alloc (.cells C 35)).alloc (.cells Z 35)).alloc (.cells C 35)) := by
  have e1 : (w.alloc (.cells C 35)).heap.size = w.heap.size + 1 := by simp
  have e2 : ((w.alloc (.cells C 35)).alloc (.cells Z 35)).heap.size = w.heap.size + 2 := by simp
  refine ⟨(((Below.refl _ _).alloc (Nat.le_refl _) _).alloc (by simp) _).alloc (by simp; omega) _, ?_, ⟨Z, ?_, hZ⟩, ?_, by omega, by omega, by omega⟩
  · rw [Below.heap_alloc _ _ _ (by rw [e2]; omega), Below.heap_alloc _ _ _ (by rw [e1]; omega)]; exact alloc_at w _
  · rw [Below.heap_alloc _ _ _ (by rw [e2]; omega), ← e1]; exact alloc_at _ _
  · rw [← e2]; exact alloc_at _ _
theorem Cpd.last {C cs : Array Value} {p r t : Nat} {w0 w : World} (h : Cpd C p r t cs w0 w) (hr : w0.heap.size ≤ r) (c : Array Value) : (w.setRow r c).heap[r]? = some (.cells c 35 (0, 0)) ∧ Exc (· = r) w (w.setRow r c) ∧ Below w0.heap.size w0 (w.setRow r c) := by
  obtain ⟨z, hz, hs⟩ := h.hr
  have e : Exc (· = r) w (w.setRow r c) := ⟨rfl, rfl, rfl, by simp [World.setRow], fun k hk hs => setRow_other w r _ k hs⟩
  exact ⟨setRow_heap w r _ _ _ _ hz, e, h.b.trans (e.below h.b.size (fun k hk => by rw [hk]; exact hr))⟩
theorem own_set {w : World} {B n t j : Nat} {v u : Value} {xs : List Value} (h : w.ownsRow B 5 1 v n xs) (ht : t < B) : (w.setCell ⟨t, j, none⟩ u).ownsRow B 5 1 v n xs := ownsRow_setCell_below h ht u
end Go.Proofs.Ytnlkamfoopikhaa
