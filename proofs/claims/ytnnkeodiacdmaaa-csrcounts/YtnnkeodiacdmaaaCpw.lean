/-
  Write of the reference.
-/
import Derived.Test.YtnnkeodiacdmaaaCpk
namespace Go.Proofs.Ytnnkeodiacdmaaa
set_option linter.unusedVariables false
open Go.ChangeShapes Go.WideShapes Go.ChangeAt Go.RowKit Go.Deep
theorem row_apart {w : World} {g g' : Nat} {cs : Array Value} {t : TypeId} (h : Row w g cs t) (hne : g ≠ g') (cs' : Array Value) : Row (w.setRow g' cs') g cs t := (setRow_other _ _ _ _ hne).trans h
/-- May the register be written? -/
def WK (k : Cp) (n : Int) : Bool := EX n && decide ((PR k).md = 3) && decide (n < 3072)
/-- The Cpu behind a write. -/
def WR (k : Cp) (n : Int) (v : BitVec 64) : Cp := if WK k n then PR (KW (PR k) n v) else PR k
theorem EX_hi (n : Int) (h : EX n = true) : (n < 3072 → ¬ n / 1024 % 4 = 3 ∧ wi n 3072 3103 = false) ∧ (¬ n < 3072 → n / 1024 % 4 = 3) := by
  simp only [EX, wi, Bool.or_eq_true, Bool.and_eq_true, decide_eq_true_iff, decide_eq_false_iff_not] at h ⊢
  omega
end Go.Proofs.Ytnnkeodiacdmaaa
