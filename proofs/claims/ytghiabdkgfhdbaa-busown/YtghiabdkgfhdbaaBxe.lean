/-
  The timer's numbers; every load and store of the program's bus.
-/
import Derived.Test.YtghiabdkgfhdbaaBxd
import Derived.Test.YtghiabdkgfhdbaaBrc
namespace Go.Proofs.Ytghiabdkgfhdbaa
set_option linter.unusedVariables false
open Go.ChangeShapes Go.WideShapes Go.ChangeAt Go.RowKit Go.Deep Go.MuLone
theorem tk_pt4 (N : Nat) : tk (ptL N 4) = N % 4294967296 := by
  unfold tk
  rw [ptL_length, show min 4 8 = 4 from rfl, tkN_pt N 4 4 (Nat.le_refl _)]
theorem prt_all (N : Nat) (h : N < 18446744073709551616) : prt N 0 8 = N := by
  have e : (((ptL N 8).drop 0).take 8) = ptL N 8 := rfl
  unfold prt; rw [e]; exact tk_pt8 N 8 rfl h
theorem prt_low (N : Nat) : prt N 0 4 = N % 4294967296 := by
  have e : (((ptL N 8).drop 0).take 4) = ptL N 4 := rfl
  unfold prt; rw [e]; exact tk_pt4 N
theorem prt_high (N : Nat) (h : N < 18446744073709551616) : prt N 4 4 = N / 4294967296 := by
  have e : (((ptL N 8).drop 4).take 4) = ptL (N / 4294967296) 4 := by
    show [((N / 256 ^ 4 % 256 : Nat) : Int), ((N / 256 ^ 5 % 256 : Nat) : Int), ((N / 256 ^ 6 % 256 : Nat) : Int), ((N / 256 ^ 7 % 256 : Nat) : Int)] = [((N / 4294967296 / 256 ^ 0 % 256 : Nat) : Int), ((N / 4294967296 / 256 ^ 1 % 256 : Nat) : Int), ((N / 4294967296 / 256 ^ 2 % 256 : Nat) : Int), ((N / 4294967296 / 256 ^ 3 % 256 : Nat) : Int)]
    simp only [List.cons.injEq, and_true]
    refine ⟨?_, ?_, ?_, ?_⟩ <;> omega
  unfold prt; rw [e, tk_pt4]; omega
theorem wrt_all (N M : Nat) (h : M < 18446744073709551616) : wrt N 0 8 M = M := by
  have e : splice (ptL N 8) 0 (ptL M 8) = ptL M 8 := rfl
  unfold wrt; rw [e]; exact tk_pt8 M 8 rfl h
theorem wrt_low (N M : Nat) (h : N < 18446744073709551616) : wrt N 0 4 M = N / 4294967296 * 4294967296 + M % 4294967296 := by
  have e : splice (ptL N 8) 0 (ptL M 4) = ptL (N / 4294967296 * 4294967296 + M % 4294967296) 8 := by
    generalize hK : N / 4294967296 * 4294967296 + M % 4294967296 = K
    show [((M / 256 ^ 0 % 256 : Nat) : Int), ((M / 256 ^ 1 % 256 : Nat) : Int), ((M / 256 ^ 2 % 256 : Nat) : Int), ((M / 256 ^ 3 % 256 : Nat) : Int), ((N / 256 ^ 4 % 256 : Nat) : Int), ((N / 256 ^ 5 % 256 : Nat) : Int), ((N / 256 ^ 6 % 256 : Nat) : Int), ((N / 256 ^ 7 % 256 : Nat) : Int)] = [((K / 256 ^ 0 % 256 : Nat) : Int), ((K / 256 ^ 1 % 256 : Nat) : Int), ((K / 256 ^ 2 % 256 : Nat) : Int), ((K / 256 ^ 3 % 256 : Nat) : Int), ((K / 256 ^ 4 % 256 : Nat) : Int), ((K / 256 ^ 5 % 256 : Nat) : Int), ((K / 256 ^ 6 % 256 : Nat) : Int), ((K / 256 ^ 7 % 256 : Nat) : Int)]
    simp only [List.cons.injEq, and_true]
    refine ⟨?_, ?_, ?_, ?_, ?_, ?_, ?_, ?_⟩ <;> omega
  unfold wrt; rw [e]; exact tk_pt8 _ 8 rfl (by omega)
theorem wrt_high (N M : Nat) : wrt N 4 4 M = M % 4294967296 * 4294967296 + N % 4294967296 := by
  have e : splice (ptL N 8) 4 (ptL M 4) = ptL (M % 4294967296 * 4294967296 + N % 4294967296) 8 := by
    generalize hK : M % 4294967296 * 4294967296 + N % 4294967296 = K
    show [((N / 256 ^ 0 % 256 : Nat) : Int), ((N / 256 ^ 1 % 256 : Nat) : Int), ((N / 256 ^ 2 % 256 : Nat) : Int), ((N / 256 ^ 3 % 256 : Nat) : Int), ((M / 256 ^ 0 % 256 : Nat) : Int), ((M / 256 ^ 1 % 256 : Nat) : Int), ((M / 256 ^ 2 % 256 : Nat) : Int), ((M / 256 ^ 3 % 256 : Nat) : Int)] = [((K / 256 ^ 0 % 256 : Nat) : Int), ((K / 256 ^ 1 % 256 : Nat) : Int), ((K / 256 ^ 2 % 256 : Nat) : Int), ((K / 256 ^ 3 % 256 : Nat) : Int), ((K / 256 ^ 4 % 256 : Nat) : Int), ((K / 256 ^ 5 % 256 : Nat) : Int), ((K / 256 ^ 6 % 256 : Nat) : Int), ((K / 256 ^ 7 % 256 : Nat) : Int)]
    simp only [List.cons.injEq, and_true]
    refine ⟨?_, ?_, ?_, ?_, ?_, ?_, ?_, ?_⟩ <;> omega
  unfold wrt; rw [e]; exact tk_pt8 _ 8 rfl (by omega)
end Go.Proofs.Ytghiabdkgfhdbaa
