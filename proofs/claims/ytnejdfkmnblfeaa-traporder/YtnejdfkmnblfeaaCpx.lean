/-
  within, Exists of the reference.
-/
import Derived.Test.YtnejdfkmnblfeaaCpb
namespace Go.Proofs.Ytnejdfkmnblfeaa
set_option linter.unusedVariables false
open Go.ChangeShapes Go.WideShapes Go.ChangeAt Go.RowKit Go.Deep
def wi (n lo hi : Int) : Bool := decide (lo ≤ n ∧ n ≤ hi)
/-- Is there such a register? -/
def EX (n : Int) : Bool := decide (n = 768 ∨ n = 769 ∨ n = 772 ∨ n = 773 ∨ n = 774 ∨ n = 778 ∨ n = 800 ∨ n = 928 ∨ n = 930) || wi n 3857 3861 || wi n 803 831 || wi n 832 836 || wi n 944 959 || (wi n 2816 2847 && decide (n ≠ 2817)) || wi n 3072 3103
end Go.Proofs.Ytnejdfkmnblfeaa
