/-
  SetCfg of the program.
-/
import Derived.Test.YtnejdfkmnblfeaaPbw
namespace Go.Proofs.Ytnejdfkmnblfeaa
set_option linter.unusedVariables false
open Go.ChangeShapes Go.WideShapes Go.ChangeAt Go.RowKit Go.Deep
/-- A byte of a word. -/
def bty (v : BitVec 64) (k : Nat) : BitVec 8 := (v >>> (8 * k)).setWidth 8
theorem bty_int (v : BitVec 64) (k : Nat) : IntKind.u8.wrap (n64 v / 2 ^ (8 * k)) = n8 (bty v k) := by
  rw [n64_shr, wrap_n8]
  congr 1
/-- What a write of the eight Cfg bytes from the one of number f on leaves. -/
def sC (c : Nat → BitVec 8) (f : Nat) (v : BitVec 64) : Nat → BitVec 8 := fun j => if f ≤ j ∧ j < f + 8 ∧ lk (c j) = false then pcl (bty v (j - f)) else c j
def sR (c : Nat → BitVec 8) (i : Int) (v : BitVec 64) : Nat → BitVec 8 := if i = 0 then sC c 0 v else if i = 2 then sC c 8 v else c
theorem sC_end (c : Nat → BitVec 8) (f : Nat) (v : BitVec 64) : upto (f + 8) (sC c f v) c = sC c f v := by
  funext j; unfold upto
  split
  · rfl
  · unfold sC; rw [if_neg (by omega)]
theorem sC_start (c : Nat → BitVec 8) (f : Nat) (v : BitVec 64) : upto (f + 0) (sC c f v) c = c := by
  funext j; unfold upto
  split
  · unfold sC; rw [if_neg (by omega)]
  · rfl
theorem sC_locked (c : Nat → BitVec 8) (f k : Nat) (v : BitVec 64) (h : lk (c (f + k)) = true) : upto (f + (k + 1)) (sC c f v) c = upto (f + k) (sC c f v) c := by
  funext j; unfold upto
  by_cases e : j = f + k
  · subst e
    rw [if_pos (by omega), if_neg (by omega), sC, if_neg (by rw [h]; simp)]
  · by_cases h1 : j < f + k
    · rw [if_pos (by omega), if_pos h1]
    · rw [if_neg (by omega), if_neg h1]
theorem sC_open (c : Nat → BitVec 8) (f k : Nat) (hk : k < 8) (v : BitVec 64) (h : lk (c (f + k)) = false) : upd (upto (f + k) (sC c f v) c) (f + k) (pcl (bty v k)) = upto (f + (k + 1)) (sC c f v) c := by
  have := upto_succ (f + k) (sC c f v) c
  rw [show f + (k + 1) = f + k + 1 by omega, ← this]
  congr 1
  rw [sC, if_pos ⟨by omega, by omega, h⟩, Nat.add_sub_cancel_left]
end Go.Proofs.Ytnejdfkmnblfeaa
