/-
  Return of the reference.
-/
import Derived.Test.YtnejdfkmnblfeaaTrb
namespace Go.Proofs.Ytnejdfkmnblfeaa
set_option linter.unusedVariables false
open Go.ChangeShapes Go.WideShapes Go.ChangeAt Go.RowKit Go.Deep
theorem mpB_is (v : BitVec 64) : mpB v = 0 ∨ mpB v = 3 := by unfold mpB; split <;> simp
theorem cpc_md2 (k : Cp) (v : Int) : (cpc k).setIfInBounds 33 (.int .i64 v) = cpc { k with md := v } := cpc_md k v
end Go.Proofs.Ytnejdfkmnblfeaa
