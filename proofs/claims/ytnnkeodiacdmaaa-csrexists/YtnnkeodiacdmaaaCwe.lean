/-
  CsrExists: its walk.
-/
import Derived.Test.YtnnkeodiacdmaaaCla
namespace Go.Proofs.Ytnnkeodiacdmaaa
set_option linter.unusedVariables false
open Go.ChangeShapes Go.WideShapes Go.ChangeAt Go.RowKit Go.Deep
set_option maxRecDepth 100000 in
set_option maxHeartbeats 1000000 in
theorem cexists_walk (hc : CEx) (n : Int) (hi : I64 n) (w : World) :
    Calls Try.prog 6 #[.int .i64 n] w fun e w' => e = .returned (.bool true) ∧ Below w.heap.size w w' := by
  have hA : Hid (∀ W : World, Calls Try.prog 13 #[.int .i64 n] W fun e w' => e = .returned (.bool (EX n)) ∧ Below W.heap.size W w') := hc n hi
  have hB : Hid (∀ W : World, Calls Try.prog 14 #[.int .i64 n] W fun e w' => e = .returned (.bool (EX n)) ∧ w' = W) := rExists_c n
  generalize EX n = b at hA hB
  go_enter Try.func6, Try.ntmps6
  go_wp2_with (first | (go_at_call 13; refine (hA.out _).mono ?_; rintro e w1 ⟨rfl, hb1⟩; have HB1 : Hid (Below w.heap.size w w1) := hb1; clear hb1) | (go_at_call 14; refine (hB.out _).mono ?_; rintro e w2 ⟨rfl, hw2⟩; have hw2 := hw2.symm; subst hw2))
  go_ret
  exact ⟨by simp, HB1.out⟩
end Go.Proofs.Ytnnkeodiacdmaaa
