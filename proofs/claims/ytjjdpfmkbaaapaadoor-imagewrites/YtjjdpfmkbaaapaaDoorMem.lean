/-
  Cells of a few new blocks.
-/
import Derived.Test.YtjjdpfmkbaaapaaDoorBase
namespace Go.Proofs.YtjjdpfmkbaaapaaDoor
open Go.ChangeShapes Go.WideShapes Go.ChangeAt Go.RowKit
theorem alloc2_0 (w : World) (A B : Array Value) (ta tb : TypeId) (i : Nat) : ((w.alloc (.cells A ta)).alloc (.cells B tb)).cell? ⟨w.heap.size, i, none⟩ = A[i]? := by
  rw [World.cell?_alloc_past _ _ _ (by simp only [World.size_alloc]; omega), World.cell?_alloc_at _ _ _ _ rfl]
theorem alloc2_1 (w : World) (A B : Array Value) (ta tb : TypeId) (i : Nat) : ((w.alloc (.cells A ta)).alloc (.cells B tb)).cell? ⟨w.heap.size + 1, i, none⟩ = B[i]? := by
  rw [World.cell?_alloc_at _ _ _ _ (by simp only [World.size_alloc])]
theorem alloc3_0 (w : World) (A B C : Array Value) (ta tb tc : TypeId) (i : Nat) : (((w.alloc (.cells A ta)).alloc (.cells B tb)).alloc (.cells C tc)).cell? ⟨w.heap.size, i, none⟩ = A[i]? := by
  rw [World.cell?_alloc_past _ _ _ (by simp only [World.size_alloc]; omega), alloc2_0]
theorem alloc3_1 (w : World) (A B C : Array Value) (ta tb tc : TypeId) (i : Nat) : (((w.alloc (.cells A ta)).alloc (.cells B tb)).alloc (.cells C tc)).cell? ⟨w.heap.size + 1, i, none⟩ = B[i]? := by
  rw [World.cell?_alloc_past _ _ _ (by simp only [World.size_alloc]; omega), alloc2_1]
theorem alloc3_2 (w : World) (A B C : Array Value) (ta tb tc : TypeId) (i : Nat) : (((w.alloc (.cells A ta)).alloc (.cells B tb)).alloc (.cells C tc)).cell? ⟨w.heap.size + 1 + 1, i, none⟩ = C[i]? := by
  rw [World.cell?_alloc_at _ _ _ _ (by simp only [World.size_alloc])]
theorem alloc4_0 (w : World) (A B C D : Array Value) (ta tb tc td : TypeId) (i : Nat) : ((((w.alloc (.cells A ta)).alloc (.cells B tb)).alloc (.cells C tc)).alloc (.cells D td)).cell? ⟨w.heap.size, i, none⟩ = A[i]? := by
  rw [World.cell?_alloc_past _ _ _ (by simp only [World.size_alloc]; omega), alloc3_0]
theorem alloc4_1 (w : World) (A B C D : Array Value) (ta tb tc td : TypeId) (i : Nat) : ((((w.alloc (.cells A ta)).alloc (.cells B tb)).alloc (.cells C tc)).alloc (.cells D td)).cell? ⟨w.heap.size + 1, i, none⟩ = B[i]? := by
  rw [World.cell?_alloc_past _ _ _ (by simp only [World.size_alloc]; omega), alloc3_1]
theorem alloc4_2 (w : World) (A B C D : Array Value) (ta tb tc td : TypeId) (i : Nat) : ((((w.alloc (.cells A ta)).alloc (.cells B tb)).alloc (.cells C tc)).alloc (.cells D td)).cell? ⟨w.heap.size + 1 + 1, i, none⟩ = C[i]? := by
  rw [World.cell?_alloc_past _ _ _ (by simp only [World.size_alloc]; omega), alloc3_2]
theorem alloc4_3 (w : World) (A B C D : Array Value) (ta tb tc td : TypeId) (i : Nat) : ((((w.alloc (.cells A ta)).alloc (.cells B tb)).alloc (.cells C tc)).alloc (.cells D td)).cell? ⟨w.heap.size + 1 + 1 + 1, i, none⟩ = D[i]? := by
  rw [World.cell?_alloc_at _ _ _ _ (by simp only [World.size_alloc])]
end Go.Proofs.YtjjdpfmkbaaapaaDoor
