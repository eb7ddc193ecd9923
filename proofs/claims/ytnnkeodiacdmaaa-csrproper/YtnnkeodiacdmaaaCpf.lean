/-
  Read of the reference.
-/
import Derived.Test.YtnnkeodiacdmaaaCpt
namespace Go.Proofs.Ytnnkeodiacdmaaa
set_option linter.unusedVariables false
open Go.ChangeShapes Go.WideShapes Go.ChangeAt Go.RowKit Go.Deep
theorem PR_md (k : Cp) : (PR k).md = 0 ∨ (PR k).md = 3 := by
  unfold PR; by_cases h : k.md = 3
  · right; simp [h]
  · left; simp [h]
/-- May the register be read? -/
def RK (k : Cp) (n : Int) : Bool := EX n && (decide ((PR k).md = 3) || (wi n 3072 3103 && decide (¬ (PR k).s 3 >>> (n - 3072).toNat &&& 1#64 = 0#64)))
theorem and3 (m : Int) (h0 : 0 ≤ m) (h1 : m < 16) : bits .and .i64 m 3 = m % 4 := by
  have : m = 0 ∨ m = 1 ∨ m = 2 ∨ m = 3 ∨ m = 4 ∨ m = 5 ∨ m = 6 ∨ m = 7 ∨ m = 8 ∨ m = 9 ∨ m = 10 ∨ m = 11 ∨ m = 12 ∨ m = 13 ∨ m = 14 ∨ m = 15 := by omega
  rcases this with rfl | rfl | rfl | rfl | rfl | rfl | rfl | rfl | rfl | rfl | rfl | rfl | rfl | rfl | rfl | rfl <;> decide +kernel
theorem EX_in (n : Int) (h : EX n = true) : 0 ≤ n ∧ n < 4096 ∧ (wi n 3072 3103 = true → n / 256 % 4 = 0) ∧ (wi n 3072 3103 = false → n / 256 % 4 = 3) := by
  simp only [EX, wi, Bool.or_eq_true, Bool.and_eq_true, decide_eq_true_iff, decide_eq_false_iff_not] at h ⊢
  omega
theorem cz_row (w : World) (k : Cp) : Row (w.alloc (.cells (cpc k) 31)) w.heap.size (cpc k) 31 := Row.new _ _ _
/-- What Read answers. -/
def RD (k : Cp) (mip time : BitVec 64) (n : Int) : Int := if RK k n then TO (PR k) mip time n else 0
end Go.Proofs.Ytnnkeodiacdmaaa
