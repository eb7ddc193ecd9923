/-
  The families of the long forms, as lists.
-/
import Derived.Test.YtechkhlibdkmpacEl
namespace Go.Proofs.Ytechkhlibdkmpac
set_option linter.unusedVariables false
open Go.ChangeShapes Go.WideShapes Go.ChangeAt Go.RowKit Go.Deep
structure Fy where
  bits : Int
  pl : Int
  fn : Nat
  ops : List Int
def Fys (w : World) (v : Value) (L : List Fy) : Prop :=
  ∃ (g : Nat) (C : Array Value) (G : Nat → Nat), v = .slice (some ⟨g, 0, none⟩) L.length L.length ∧ w.heap[g]? = some (.cells C 69 (0, 0)) ∧ ∀ j x, L[j]? = some x → w.heap[G j]? = some (.cells (iv x.ops) 3 (0, 0)) ∧ C[j * 4]? = some (.int .u32 x.bits) ∧ C[j * 4 + 1]? = some (.int .i64 x.pl) ∧ C[j * 4 + 2]? = some (fv x.fn) ∧ C[j * 4 + 3]? = some (.slice (some ⟨G j, 0, none⟩) x.ops.length x.ops.length)
theorem Fys.keep {w w' : World} {v : Value} {L : List Fy} (h : Fys w v L) (hk : ∀ (k : Nat) (C : Array Value) (T : TypeId), w.heap[k]? = some (Obj.cells C T (0, 0)) → w'.heap[k]? = some (Obj.cells C T (0, 0))) : Fys w' v L := by
  obtain ⟨g, C, G, h1, h2, h3⟩ := h
  refine ⟨g, C, G, h1, hk _ _ _ h2, fun j x hx => ?_⟩
  obtain ⟨q0, q1⟩ := h3 j x hx
  exact ⟨hk _ _ _ q0, q1⟩
theorem Fys.later {w w' : World} {v : Value} {L : List Fy} (h : Fys w v L) (hb : Below w.heap.size w w') : Fys w' v L := h.keep (fun k C T hr => (hb.block _ (Array.getElem?_eq_some_iff.1 hr).1).trans hr)
def L_jumps : List Fy := [⟨55, 12, 34, [1]⟩, ⟨23, 12, 34, [2]⟩, ⟨111, 12, 35, [3]⟩, ⟨103, 12, 36, [4]⟩, ⟨99, 12, 37, [5, 6, 0, 0, 7, 8, 9, 10]⟩]
theorem fys_jumps (w : World) : Calls Try.prog 24 #[] w fun e w' => ∃ v, e = .returned v ∧ Fys w' v L_jumps ∧ Below w.heap.size w w' := by
  refine (fam_jumps w).mono ?_
  rintro e w' ⟨rfl, rfl⟩
  have R : ∀ j, j < 6 → (allocs w (O_jumps w)).heap[w.heap.size + j]? = (O_jumps w)[j]? := fun j hj => allocs_get _ w j hj
  have hb := allocs_below (O_jumps w) w
  generalize allocs w (O_jumps w) = W at R hb
  have q : W.heap[w.heap.size + 5]? = some (.cells #[.int .u32 55, .int .i64 12, fv 34, .slice (some ⟨w.heap.size, 0, none⟩) 1 1, .int .u32 23, .int .i64 12, fv 34, .slice (some ⟨w.heap.size + 1, 0, none⟩) 1 1, .int .u32 111, .int .i64 12, fv 35, .slice (some ⟨w.heap.size + 2, 0, none⟩) 1 1, .int .u32 103, .int .i64 12, fv 36, .slice (some ⟨w.heap.size + 3, 0, none⟩) 1 1, .int .u32 99, .int .i64 12, fv 37, .slice (some ⟨w.heap.size + 4, 0, none⟩) 8 8] 69 (0, 0)) := R 5 (by omega)
  refine ⟨_, rfl, ⟨w.heap.size + 5, _, fun j => w.heap.size + j, rfl, q, fun j x hx => ?_⟩, hb⟩
  match j, hx with
  | 0, hx => cases hx; exact ⟨R 0 (by omega), rfl, rfl, rfl, rfl⟩
  | 1, hx => cases hx; exact ⟨R 1 (by omega), rfl, rfl, rfl, rfl⟩
  | 2, hx => cases hx; exact ⟨R 2 (by omega), rfl, rfl, rfl, rfl⟩
  | 3, hx => cases hx; exact ⟨R 3 (by omega), rfl, rfl, rfl, rfl⟩
  | 4, hx => cases hx; exact ⟨R 4 (by omega), rfl, rfl, rfl, rfl⟩
  | j + 5, hx => simp [L_jumps] at hx
def L_memory : List Fy := [⟨3, 12, 36, [11, 12, 13, 14, 15, 16, 17]⟩, ⟨35, 12, 38, [18, 19, 20, 21]⟩]
theorem fys_memory (w : World) : Calls Try.prog 25 #[] w fun e w' => ∃ v, e = .returned v ∧ Fys w' v L_memory ∧ Below w.heap.size w w' := by
  refine (fam_memory w).mono ?_
  rintro e w' ⟨rfl, rfl⟩
  have R : ∀ j, j < 3 → (allocs w (O_memory w)).heap[w.heap.size + j]? = (O_memory w)[j]? := fun j hj => allocs_get _ w j hj
  have hb := allocs_below (O_memory w) w
  generalize allocs w (O_memory w) = W at R hb
  have q : W.heap[w.heap.size + 2]? = some (.cells #[.int .u32 3, .int .i64 12, fv 36, .slice (some ⟨w.heap.size, 0, none⟩) 7 7, .int .u32 35, .int .i64 12, fv 38, .slice (some ⟨w.heap.size + 1, 0, none⟩) 4 4] 69 (0, 0)) := R 2 (by omega)
  refine ⟨_, rfl, ⟨w.heap.size + 2, _, fun j => w.heap.size + j, rfl, q, fun j x hx => ?_⟩, hb⟩
  match j, hx with
  | 0, hx => cases hx; exact ⟨R 0 (by omega), rfl, rfl, rfl, rfl⟩
  | 1, hx => cases hx; exact ⟨R 1 (by omega), rfl, rfl, rfl, rfl⟩
  | j + 2, hx => simp [L_memory] at hx
def L_immediates : List Fy := [⟨19, 12, 36, [22, 0, 23, 24, 25, 0, 26, 27]⟩, ⟨19, 12, 39, [0, 28, 0, 0, 0, 29]⟩, ⟨1073741843, 12, 39, [0, 0, 0, 0, 0, 30]⟩, ⟨27, 12, 36, [31]⟩, ⟨27, 12, 40, [0, 32, 0, 0, 0, 33]⟩, ⟨1073741851, 12, 40, [0, 0, 0, 0, 0, 34]⟩]
theorem fys_immediates (w : World) : Calls Try.prog 26 #[] w fun e w' => ∃ v, e = .returned v ∧ Fys w' v L_immediates ∧ Below w.heap.size w w' := by
  refine (fam_immediates w).mono ?_
  rintro e w' ⟨rfl, rfl⟩
  have R : ∀ j, j < 7 → (allocs w (O_immediates w)).heap[w.heap.size + j]? = (O_immediates w)[j]? := fun j hj => allocs_get _ w j hj
  have hb := allocs_below (O_immediates w) w
  generalize allocs w (O_immediates w) = W at R hb
  have q : W.heap[w.heap.size + 6]? = some (.cells #[.int .u32 19, .int .i64 12, fv 36, .slice (some ⟨w.heap.size, 0, none⟩) 8 8, .int .u32 19, .int .i64 12, fv 39, .slice (some ⟨w.heap.size + 1, 0, none⟩) 6 6, .int .u32 1073741843, .int .i64 12, fv 39, .slice (some ⟨w.heap.size + 2, 0, none⟩) 6 6, .int .u32 27, .int .i64 12, fv 36, .slice (some ⟨w.heap.size + 3, 0, none⟩) 1 1, .int .u32 27, .int .i64 12, fv 40, .slice (some ⟨w.heap.size + 4, 0, none⟩) 6 6, .int .u32 1073741851, .int .i64 12, fv 40, .slice (some ⟨w.heap.size + 5, 0, none⟩) 6 6] 69 (0, 0)) := R 6 (by omega)
  refine ⟨_, rfl, ⟨w.heap.size + 6, _, fun j => w.heap.size + j, rfl, q, fun j x hx => ?_⟩, hb⟩
  match j, hx with
  | 0, hx => cases hx; exact ⟨R 0 (by omega), rfl, rfl, rfl, rfl⟩
  | 1, hx => cases hx; exact ⟨R 1 (by omega), rfl, rfl, rfl, rfl⟩
  | 2, hx => cases hx; exact ⟨R 2 (by omega), rfl, rfl, rfl, rfl⟩
  | 3, hx => cases hx; exact ⟨R 3 (by omega), rfl, rfl, rfl, rfl⟩
  | 4, hx => cases hx; exact ⟨R 4 (by omega), rfl, rfl, rfl, rfl⟩
  | 5, hx => cases hx; exact ⟨R 5 (by omega), rfl, rfl, rfl, rfl⟩
  | j + 6, hx => simp [L_immediates] at hx
def L_registers : List Fy := [⟨51, 12, 41, [35, 37, 38, 39, 40, 41, 43, 44]⟩, ⟨1073741875, 12, 41, [36, 0, 0, 0, 0, 42]⟩, ⟨33554483, 12, 41, [62, 63, 64, 65, 66, 67, 68, 69]⟩, ⟨59, 12, 41, [45, 47, 0, 0, 0, 48]⟩, ⟨1073741883, 12, 41, [46, 0, 0, 0, 0, 49]⟩, ⟨33554491, 12, 41, [70, 0, 0, 0, 71, 72, 73, 74]⟩]
theorem fys_registers (w : World) : Calls Try.prog 27 #[] w fun e w' => ∃ v, e = .returned v ∧ Fys w' v L_registers ∧ Below w.heap.size w w' := by
  refine (fam_registers w).mono ?_
  rintro e w' ⟨rfl, rfl⟩
  have R : ∀ j, j < 7 → (allocs w (O_registers w)).heap[w.heap.size + j]? = (O_registers w)[j]? := fun j hj => allocs_get _ w j hj
  have hb := allocs_below (O_registers w) w
  generalize allocs w (O_registers w) = W at R hb
  have q : W.heap[w.heap.size + 6]? = some (.cells #[.int .u32 51, .int .i64 12, fv 41, .slice (some ⟨w.heap.size, 0, none⟩) 8 8, .int .u32 1073741875, .int .i64 12, fv 41, .slice (some ⟨w.heap.size + 1, 0, none⟩) 6 6, .int .u32 33554483, .int .i64 12, fv 41, .slice (some ⟨w.heap.size + 2, 0, none⟩) 8 8, .int .u32 59, .int .i64 12, fv 41, .slice (some ⟨w.heap.size + 3, 0, none⟩) 6 6, .int .u32 1073741883, .int .i64 12, fv 41, .slice (some ⟨w.heap.size + 4, 0, none⟩) 6 6, .int .u32 33554491, .int .i64 12, fv 41, .slice (some ⟨w.heap.size + 5, 0, none⟩) 8 8] 69 (0, 0)) := R 6 (by omega)
  refine ⟨_, rfl, ⟨w.heap.size + 6, _, fun j => w.heap.size + j, rfl, q, fun j x hx => ?_⟩, hb⟩
  match j, hx with
  | 0, hx => cases hx; exact ⟨R 0 (by omega), rfl, rfl, rfl, rfl⟩
  | 1, hx => cases hx; exact ⟨R 1 (by omega), rfl, rfl, rfl, rfl⟩
  | 2, hx => cases hx; exact ⟨R 2 (by omega), rfl, rfl, rfl, rfl⟩
  | 3, hx => cases hx; exact ⟨R 3 (by omega), rfl, rfl, rfl, rfl⟩
  | 4, hx => cases hx; exact ⟨R 4 (by omega), rfl, rfl, rfl, rfl⟩
  | 5, hx => cases hx; exact ⟨R 5 (by omega), rfl, rfl, rfl, rfl⟩
  | j + 6, hx => simp [L_registers] at hx
def L_systems : List Fy := [⟨15, 12, 42, [50, 51]⟩, ⟨115, 20, 43, [52, 53]⟩, ⟨807403635, 12, 43, [54]⟩, ⟨273678451, 12, 43, [55]⟩, ⟨115, 12, 42, [0, 56, 57, 58, 0, 59, 60, 61]⟩]
theorem fys_systems (w : World) : Calls Try.prog 28 #[] w fun e w' => ∃ v, e = .returned v ∧ Fys w' v L_systems ∧ Below w.heap.size w w' := by
  refine (fam_systems w).mono ?_
  rintro e w' ⟨rfl, rfl⟩
  have R : ∀ j, j < 6 → (allocs w (O_systems w)).heap[w.heap.size + j]? = (O_systems w)[j]? := fun j hj => allocs_get _ w j hj
  have hb := allocs_below (O_systems w) w
  generalize allocs w (O_systems w) = W at R hb
  have q : W.heap[w.heap.size + 5]? = some (.cells #[.int .u32 15, .int .i64 12, fv 42, .slice (some ⟨w.heap.size, 0, none⟩) 2 2, .int .u32 115, .int .i64 20, fv 43, .slice (some ⟨w.heap.size + 1, 0, none⟩) 2 2, .int .u32 807403635, .int .i64 12, fv 43, .slice (some ⟨w.heap.size + 2, 0, none⟩) 1 1, .int .u32 273678451, .int .i64 12, fv 43, .slice (some ⟨w.heap.size + 3, 0, none⟩) 1 1, .int .u32 115, .int .i64 12, fv 42, .slice (some ⟨w.heap.size + 4, 0, none⟩) 8 8] 69 (0, 0)) := R 5 (by omega)
  refine ⟨_, rfl, ⟨w.heap.size + 5, _, fun j => w.heap.size + j, rfl, q, fun j x hx => ?_⟩, hb⟩
  match j, hx with
  | 0, hx => cases hx; exact ⟨R 0 (by omega), rfl, rfl, rfl, rfl⟩
  | 1, hx => cases hx; exact ⟨R 1 (by omega), rfl, rfl, rfl, rfl⟩
  | 2, hx => cases hx; exact ⟨R 2 (by omega), rfl, rfl, rfl, rfl⟩
  | 3, hx => cases hx; exact ⟨R 3 (by omega), rfl, rfl, rfl, rfl⟩
  | 4, hx => cases hx; exact ⟨R 4 (by omega), rfl, rfl, rfl, rfl⟩
  | j + 5, hx => simp [L_systems] at hx
def L_atomics : List Fy := [⟨8239, 27, 44, [0, 0, 75]⟩, ⟨12335, 27, 44, [0, 0, 86]⟩, ⟨8239, 27, 45, [78, 77, 0, 76, 79, 0, 0, 0, 81, 0, 0, 0, 80, 0, 0, 0, 82, 0, 0, 0, 83, 0, 0, 0, 84, 0, 0, 0, 85]⟩, ⟨12335, 27, 45, [89, 88, 0, 87, 90, 0, 0, 0, 92, 0, 0, 0, 91, 0, 0, 0, 93, 0, 0, 0, 94, 0, 0, 0, 95, 0, 0, 0, 96]⟩]
theorem fys_atomics (w : World) : Calls Try.prog 29 #[] w fun e w' => ∃ v, e = .returned v ∧ Fys w' v L_atomics ∧ Below w.heap.size w w' := by
  refine (fam_atomics w).mono ?_
  rintro e w' ⟨rfl, rfl⟩
  have R : ∀ j, j < 5 → (allocs w (O_atomics w)).heap[w.heap.size + j]? = (O_atomics w)[j]? := fun j hj => allocs_get _ w j hj
  have hb := allocs_below (O_atomics w) w
  generalize allocs w (O_atomics w) = W at R hb
  have q : W.heap[w.heap.size + 4]? = some (.cells #[.int .u32 8239, .int .i64 27, fv 44, .slice (some ⟨w.heap.size, 0, none⟩) 3 3, .int .u32 12335, .int .i64 27, fv 44, .slice (some ⟨w.heap.size + 1, 0, none⟩) 3 3, .int .u32 8239, .int .i64 27, fv 45, .slice (some ⟨w.heap.size + 2, 0, none⟩) 29 29, .int .u32 12335, .int .i64 27, fv 45, .slice (some ⟨w.heap.size + 3, 0, none⟩) 29 29] 69 (0, 0)) := R 4 (by omega)
  refine ⟨_, rfl, ⟨w.heap.size + 4, _, fun j => w.heap.size + j, rfl, q, fun j x hx => ?_⟩, hb⟩
  match j, hx with
  | 0, hx => cases hx; exact ⟨R 0 (by omega), rfl, rfl, rfl, rfl⟩
  | 1, hx => cases hx; exact ⟨R 1 (by omega), rfl, rfl, rfl, rfl⟩
  | 2, hx => cases hx; exact ⟨R 2 (by omega), rfl, rfl, rfl, rfl⟩
  | 3, hx => cases hx; exact ⟨R 3 (by omega), rfl, rfl, rfl, rfl⟩
  | j + 4, hx => simp [L_atomics] at hx
end Go.Proofs.Ytechkhlibdkmpac
