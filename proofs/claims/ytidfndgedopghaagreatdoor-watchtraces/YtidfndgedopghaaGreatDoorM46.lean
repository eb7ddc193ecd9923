/-
  Us.
-/
import Derived.Test.YtidfndgedopghaaGreatDoorM45
namespace Go.Proofs.YtidfndgedopghaaGreatDoor
set_option linter.unusedVariables false
set_option maxRecDepth 100000
set_option maxHeartbeats 4000000
open Go.ChangeShapes Go.WideShapes Go.ChangeAt Go.RowKit Go.Deep
theorem and63 (x : BitVec 64) : bits .and .u64 (n64 x) 9223372036854775808 = 0 ↔ ¬ n64 x / 9223372036854775808 = 1 := by
  have b : bits .and .u64 (n64 x) 9223372036854775808 = n64 (x &&& 9223372036854775808#64) := n64_and x 9223372036854775808#64
  rw [b]
  have q := bit_ne x 63 (by decide)
  have e63 : tp 63 = 9223372036854775808#64 := by decide
  rw [e63] at q
  have hx := x.isLt
  have ht : x.getLsbD 63 = decide (x.toNat / 2 ^ 63 % 2 = 1) := Nat.testBit_eq_decide_div_mod_eq ..
  rw [ht] at q
  unfold n64 at *
  generalize ((x &&& 9223372036854775808#64).toNat : Int) = y at *
  generalize x.toNat = n at *
  by_cases e : n / 2 ^ 63 % 2 = 1
  · simp only [e, decide_true, bne_iff_ne, ne_eq] at q
    constructor
    · intro h; exact absurd h q
    · intro h; exact absurd (show (n : Int) / 9223372036854775808 = 1 by omega) h
  · simp only [e, decide_false, bne_eq_false_iff_eq] at q
    constructor
    · intro h h2; omega
    · intro h; exact q
set_option maxHeartbeats 8000000 in
theorem rf_eq (r : Rw) : rfB r = fmB r := by
  have h63 := and63 r.ca
  have hc0 : n64 r.ca = 0 → ¬ n64 r.ca / 9223372036854775808 = 1 := by intro h; rw [h]; decide
  have e1 : rfB r = true ↔ rf1 r = false ∧ rf2 r = false ∧ rf3 r = false ∧ ((r.kd ≠ 1 ∧ rnt r = true) ∨ (r.kd = 1 ∧ rf5 r = true)) := by
    unfold rfB
    cases rf1 r <;> cases rf2 r <;> cases rf3 r <;> by_cases h : r.kd = 1 <;> simp [h]
  rw [Bool.eq_iff_iff, e1]
  unfold rf1 rf2 rf3 rnt rf5 fmB kdB mdB evB tcB teB tdB dnB rnB tpB
  generalize (n64 r.pc).tmod 2 = p at *
  generalize (n64 r.nx).tmod 2 = x at *
  generalize bits .and .u64 (n64 r.ca) 9223372036854775808 = cb at *
  generalize n64 r.ca / 9223372036854775808 = cs at *
  simp only [Bool.and_eq_true, Bool.or_eq_true, Bool.not_eq_true', beq_iff_eq, beq_eq_false_iff_ne, Bool.and_eq_false_iff, Bool.or_eq_false_iff, Bool.not_eq_false', bne_iff_ne, bne_eq_false_iff_eq, decide_eq_true_eq, decide_eq_false_iff_not, ne_eq]
  omega
end Go.Proofs.YtidfndgedopghaaGreatDoor
