/-
  The families of the long forms.
-/
import Derived.Test.YtechkhlibdkmpacEk
namespace Go.Proofs.Ytechkhlibdkmpac
set_option linter.unusedVariables false
open Go.ChangeShapes Go.WideShapes Go.ChangeAt Go.RowKit Go.Deep
def allocs (w : World) (os : List Obj) : World := os.foldl World.alloc w
theorem allocs_below : ∀ (os : List Obj) (w : World), Below w.heap.size w (allocs w os)
  | [], w => Below.refl _ _
  | o :: os, w => (below_al w o).trans ((allocs_below os (w.alloc o)).mono (below_al w o).size)
theorem allocs_get : ∀ (os : List Obj) (w : World) (j : Nat), j < os.length → (allocs w os).heap[w.heap.size + j]? = os[j]?
  | [], w, j, h => by simp at h
  | o :: os, w, 0, h => by
    show (allocs (w.alloc o) os).heap[w.heap.size]? = some o
    rw [(allocs_below os (w.alloc o)).block _ (by simp)]
    exact heap_alloc_new w o
  | o :: os, w, j + 1, h => by
    have e : (w.alloc o).heap.size = w.heap.size + 1 := by simp
    have q := allocs_get os (w.alloc o) j (by simpa using h)
    rw [e] at q
    rw [show w.heap.size + (j + 1) = w.heap.size + 1 + j by omega]
    simpa [allocs] using q
def O_jumps (w : World) : List Obj := [.cells (iv [1]) 3, .cells (iv [2]) 3, .cells (iv [3]) 3, .cells (iv [4]) 3, .cells (iv [5, 6, 0, 0, 7, 8, 9, 10]) 3, .cells #[.int .u32 55, .int .i64 12, fv 34, .slice (some ⟨w.heap.size, 0, none⟩) 1 1, .int .u32 23, .int .i64 12, fv 34, .slice (some ⟨w.heap.size + 1, 0, none⟩) 1 1, .int .u32 111, .int .i64 12, fv 35, .slice (some ⟨w.heap.size + 2, 0, none⟩) 1 1, .int .u32 103, .int .i64 12, fv 36, .slice (some ⟨w.heap.size + 3, 0, none⟩) 1 1, .int .u32 99, .int .i64 12, fv 37, .slice (some ⟨w.heap.size + 4, 0, none⟩) 8 8] 69]
set_option maxRecDepth 100000 in
set_option maxHeartbeats 4000000 in
theorem fam_jumps (w : World) : Calls Try.prog 24 #[] w fun e w' => e = .returned (.slice (some ⟨w.heap.size + 5, 0, none⟩) 5 5) ∧ w' = allocs w (O_jumps w) := by
  go_enter Try.func24, Try.ntmps24
  go_wp2
  go_ret
  exact ⟨by first | rfl | simp, by first | rfl | (simp [allocs, O_jumps, iv, fv])⟩
def O_memory (w : World) : List Obj := [.cells (iv [11, 12, 13, 14, 15, 16, 17]) 3, .cells (iv [18, 19, 20, 21]) 3, .cells #[.int .u32 3, .int .i64 12, fv 36, .slice (some ⟨w.heap.size, 0, none⟩) 7 7, .int .u32 35, .int .i64 12, fv 38, .slice (some ⟨w.heap.size + 1, 0, none⟩) 4 4] 69]
set_option maxRecDepth 100000 in
set_option maxHeartbeats 4000000 in
theorem fam_memory (w : World) : Calls Try.prog 25 #[] w fun e w' => e = .returned (.slice (some ⟨w.heap.size + 2, 0, none⟩) 2 2) ∧ w' = allocs w (O_memory w) := by
  go_enter Try.func25, Try.ntmps25
  go_wp2
  go_ret
  exact ⟨by first | rfl | simp, by first | rfl | (simp [allocs, O_memory, iv, fv])⟩
def O_immediates (w : World) : List Obj := [.cells (iv [22, 0, 23, 24, 25, 0, 26, 27]) 3, .cells (iv [0, 28, 0, 0, 0, 29]) 3, .cells (iv [0, 0, 0, 0, 0, 30]) 3, .cells (iv [31]) 3, .cells (iv [0, 32, 0, 0, 0, 33]) 3, .cells (iv [0, 0, 0, 0, 0, 34]) 3, .cells #[.int .u32 19, .int .i64 12, fv 36, .slice (some ⟨w.heap.size, 0, none⟩) 8 8, .int .u32 19, .int .i64 12, fv 39, .slice (some ⟨w.heap.size + 1, 0, none⟩) 6 6, .int .u32 1073741843, .int .i64 12, fv 39, .slice (some ⟨w.heap.size + 2, 0, none⟩) 6 6, .int .u32 27, .int .i64 12, fv 36, .slice (some ⟨w.heap.size + 3, 0, none⟩) 1 1, .int .u32 27, .int .i64 12, fv 40, .slice (some ⟨w.heap.size + 4, 0, none⟩) 6 6, .int .u32 1073741851, .int .i64 12, fv 40, .slice (some ⟨w.heap.size + 5, 0, none⟩) 6 6] 69]
set_option maxRecDepth 100000 in
set_option maxHeartbeats 4000000 in
theorem fam_immediates (w : World) : Calls Try.prog 26 #[] w fun e w' => e = .returned (.slice (some ⟨w.heap.size + 6, 0, none⟩) 6 6) ∧ w' = allocs w (O_immediates w) := by
  go_enter Try.func26, Try.ntmps26
  go_wp2
  go_ret
  exact ⟨by first | rfl | simp, by first | rfl | (simp [allocs, O_immediates, iv, fv])⟩
def O_registers (w : World) : List Obj := [.cells (iv [35, 37, 38, 39, 40, 41, 43, 44]) 3, .cells (iv [36, 0, 0, 0, 0, 42]) 3, .cells (iv [62, 63, 64, 65, 66, 67, 68, 69]) 3, .cells (iv [45, 47, 0, 0, 0, 48]) 3, .cells (iv [46, 0, 0, 0, 0, 49]) 3, .cells (iv [70, 0, 0, 0, 71, 72, 73, 74]) 3, .cells #[.int .u32 51, .int .i64 12, fv 41, .slice (some ⟨w.heap.size, 0, none⟩) 8 8, .int .u32 1073741875, .int .i64 12, fv 41, .slice (some ⟨w.heap.size + 1, 0, none⟩) 6 6, .int .u32 33554483, .int .i64 12, fv 41, .slice (some ⟨w.heap.size + 2, 0, none⟩) 8 8, .int .u32 59, .int .i64 12, fv 41, .slice (some ⟨w.heap.size + 3, 0, none⟩) 6 6, .int .u32 1073741883, .int .i64 12, fv 41, .slice (some ⟨w.heap.size + 4, 0, none⟩) 6 6, .int .u32 33554491, .int .i64 12, fv 41, .slice (some ⟨w.heap.size + 5, 0, none⟩) 8 8] 69]
set_option maxRecDepth 100000 in
set_option maxHeartbeats 4000000 in
theorem fam_registers (w : World) : Calls Try.prog 27 #[] w fun e w' => e = .returned (.slice (some ⟨w.heap.size + 6, 0, none⟩) 6 6) ∧ w' = allocs w (O_registers w) := by
  go_enter Try.func27, Try.ntmps27
  go_wp2
  go_ret
  exact ⟨by first | rfl | simp, by first | rfl | (simp [allocs, O_registers, iv, fv])⟩
def O_systems (w : World) : List Obj := [.cells (iv [50, 51]) 3, .cells (iv [52, 53]) 3, .cells (iv [54]) 3, .cells (iv [55]) 3, .cells (iv [0, 56, 57, 58, 0, 59, 60, 61]) 3, .cells #[.int .u32 15, .int .i64 12, fv 42, .slice (some ⟨w.heap.size, 0, none⟩) 2 2, .int .u32 115, .int .i64 20, fv 43, .slice (some ⟨w.heap.size + 1, 0, none⟩) 2 2, .int .u32 807403635, .int .i64 12, fv 43, .slice (some ⟨w.heap.size + 2, 0, none⟩) 1 1, .int .u32 273678451, .int .i64 12, fv 43, .slice (some ⟨w.heap.size + 3, 0, none⟩) 1 1, .int .u32 115, .int .i64 12, fv 42, .slice (some ⟨w.heap.size + 4, 0, none⟩) 8 8] 69]
set_option maxRecDepth 100000 in
set_option maxHeartbeats 4000000 in
theorem fam_systems (w : World) : Calls Try.prog 28 #[] w fun e w' => e = .returned (.slice (some ⟨w.heap.size + 5, 0, none⟩) 5 5) ∧ w' = allocs w (O_systems w) := by
  go_enter Try.func28, Try.ntmps28
  go_wp2
  go_ret
  exact ⟨by first | rfl | simp, by first | rfl | (simp [allocs, O_systems, iv, fv])⟩
def O_atomics (w : World) : List Obj := [.cells (iv [0, 0, 75]) 3, .cells (iv [0, 0, 86]) 3, .cells (iv [78, 77, 0, 76, 79, 0, 0, 0, 81, 0, 0, 0, 80, 0, 0, 0, 82, 0, 0, 0, 83, 0, 0, 0, 84, 0, 0, 0, 85]) 3, .cells (iv [89, 88, 0, 87, 90, 0, 0, 0, 92, 0, 0, 0, 91, 0, 0, 0, 93, 0, 0, 0, 94, 0, 0, 0, 95, 0, 0, 0, 96]) 3, .cells #[.int .u32 8239, .int .i64 27, fv 44, .slice (some ⟨w.heap.size, 0, none⟩) 3 3, .int .u32 12335, .int .i64 27, fv 44, .slice (some ⟨w.heap.size + 1, 0, none⟩) 3 3, .int .u32 8239, .int .i64 27, fv 45, .slice (some ⟨w.heap.size + 2, 0, none⟩) 29 29, .int .u32 12335, .int .i64 27, fv 45, .slice (some ⟨w.heap.size + 3, 0, none⟩) 29 29] 69]
set_option maxRecDepth 100000 in
set_option maxHeartbeats 4000000 in
theorem fam_atomics (w : World) : Calls Try.prog 29 #[] w fun e w' => e = .returned (.slice (some ⟨w.heap.size + 4, 0, none⟩) 4 4) ∧ w' = allocs w (O_atomics w) := by
  go_enter Try.func29, Try.ntmps29
  go_wp2
  go_ret
  exact ⟨by first | rfl | simp, by first | rfl | (simp [allocs, O_atomics, iv, fv])⟩
end Go.Proofs.Ytechkhlibdkmpac
